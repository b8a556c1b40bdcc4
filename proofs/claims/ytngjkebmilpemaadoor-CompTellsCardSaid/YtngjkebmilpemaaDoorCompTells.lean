/-
  CompTells answers true for every two zones; the listed variable reads as the program lays it.
-/
import Derived.Test.YtngjkebmilpemaaDoorCompV
import Derived.Test.YtngjkebmilpemaaDoorCards
import Derived.Test.YtngjkebmilpemaaDoorTie
import Derived.BigQuiet
namespace Go.Proofs.YtngjkebmilpemaaDoor.compTells
open Go.Joins Go.ChangeShapes Go.WideShapes Go.ChangeAt Go.RowKit num rat dbm Go.Proofs.YtngjkebmilpemaaDoor.tight Go.Proofs.YtngjkebmilpemaaDoor.incl Go.Proofs.YtngjkebmilpemaaDoor.plaw Go.Proofs.YtngjkebmilpemaaDoor.zopen Go.Proofs.YtngjkebmilpemaaDoor.zone Go.Proofs.YtngjkebmilpemaaDoor.comp Go.Proofs.YtngjkebmilpemaaDoor.cref
open bound hiding up
set_option linter.unusedVariables false
set_option linter.unusedSimpArgs false

theorem comp_one {a b z z' : List Int} {f f' : Int} (h : CompR a b z f) (k : CompR a b z' f') : z' = z ∧ f' = f := by
  rcases h with ⟨m, rfl, rfl⟩ | ⟨p, q, o, rfl, rfl⟩ | ⟨p, q, o, c, rfl, rfl⟩ | ⟨p, q, o, c, hz, rfl⟩ <;> rcases k with ⟨m', rfl, rfl⟩ | ⟨p', q', o', rfl, rfl⟩ | ⟨p', q', o', c', rfl, rfl⟩ | ⟨p', q', o', c', hz', rfl⟩
  all_goals first | exact ⟨rfl, rfl⟩ | exact ⟨hz'.trans hz.symm, rfl⟩ | exact (m ⟨p', q'⟩).elim | exact (m' ⟨p, q⟩).elim | exact (o o').elim | exact (o' o).elim | exact (c c'.may).elim | exact (c' c.may).elim
theorem back_one {a z z' : List Int} {f f' : Int} (h : BackR a z f) (k : BackR a z' f') : z' = z ∧ f' = f := by
  rcases h with ⟨m, rfl, rfl⟩ | ⟨m, rfl, rfl⟩ <;> rcases k with ⟨n, rfl, rfl⟩ | ⟨n, rfl, rfl⟩
  · exact ⟨rfl, rfl⟩
  · exact (m n).elim
  · exact (n m).elim
  · exact ⟨rfl, rfl⟩
theorem firs_one {a : List Int} {s s' : Sp} {f f' : Int} (h : FirR a s f) (k : FirR a s' f') : s' = s ∧ f' = f := by
  rcases h with ⟨m, rfl, rfl⟩ | ⟨m, p, rfl, rfl⟩ | ⟨m, p, q, rfl, rfl⟩ | ⟨m, p, q, rfl, rfl⟩ <;> rcases k with ⟨m', rfl, rfl⟩ | ⟨m', p', rfl, rfl⟩ | ⟨m', p', q', rfl, rfl⟩ | ⟨m', p', q', rfl, rfl⟩
  all_goals first | exact ⟨rfl, rfl⟩ | exact (m m').elim | exact (m' m).elim | exact (p p').elim | exact (p' p).elim | exact (q q').elim | exact (q' q).elim
set_option maxRecDepth 100000 in
set_option maxHeartbeats 4000000 in
theorem eq_span (lo hi : Int) (ls hs op : Bool) (w : World) : (Op.equalIn 10000 27 (.agg #[.int .i64 lo, .bool ls, .int .i64 hi, .bool hs, .bool op]) (.agg #[.int .i64 lo, .bool ls, .int .i64 hi, .bool hs, .bool op])).run Tryd.prog w = .ok true w := by
  have u1 := Tryd.underlying3
  have i1 := Tryd.isAgg3
  have z1 := Tryd.sizeOf3
  have u2 := Tryd.underlying4
  have i2 := Tryd.isAgg4
  have z2 := Tryd.sizeOf4
  rw [show (10000 : Nat) = 9999 + 1 from rfl, Op.equalIn]
  simp only [Sem.run_bind, run_underlying Tryd.underlying27, Result.andThen_ok]
  go_simp

set_option maxRecDepth 100000 in
set_option maxHeartbeats 16000000 in
theorem walk (a0 a1 a2 a3 a4 a5 b0 b1 b2 b3 b4 b5 : Int) (w : World) (ha : ∀ x ∈ [a0, a1, a2, a3, a4, a5], -9223372036854775808 ≤ x ∧ x ≤ 9223372036854775807) (hb : ∀ x ∈ [b0, b1, b2, b3, b4, b5], -9223372036854775808 ≤ x ∧ x ≤ 9223372036854775807) (hP : Pl w) : Calls Tryd.prog 4 #[.agg #[.int .i64 a0, .int .i64 a1, .int .i64 a2, .int .i64 a3, .int .i64 a4, .int .i64 a5], .agg #[.int .i64 b0, .int .i64 b1, .int .i64 b2, .int .i64 b3, .int .i64 b4, .int .i64 b5]] w fun e w' => e = .returned (.bool true) ∧ Below w.heap.size w w' := by
  have TA := Lib.hid (show Tops [a0, a1, a2, a3, a4, a5] from fun x hx => (ha x hx).2)
  have TB := Lib.hid (show Tops [b0, b1, b2, b3, b4, b5] from fun x hx => (hb x hx).2)
  have LA := Lib.hid (show dref.Low [a0, a1, a2, a3, a4, a5] from fun x hx => (ha x hx).1)
  have LB := Lib.hid (show dref.Low [b0, b1, b2, b3, b4, b5] from fun x hx => (hb x hx).1)
  have X : ∃ w0, w0 = (w.alloc (.cells #[.int .i64 a0, .int .i64 a1, .int .i64 a2, .int .i64 a3, .int .i64 a4, .int .i64 a5] 24)).alloc (.cells #[.int .i64 b0, .int .i64 b1, .int .i64 b2, .int .i64 b3, .int .i64 b4, .int .i64 b5] 24) := ⟨_, rfl⟩
  obtain ⟨w0, hX⟩ := X
  have DB : Below w.heap.size w w0 := by rw [hX]; exact bound.up2 _ _ _
  have D0 : lies.Lies w0 w.heap.size 24 #[.int .i64 a0, .int .i64 a1, .int .i64 a2, .int .i64 a3, .int .i64 a4, .int .i64 a5] := by rw [hX]; exact lies.on_alloc (lies.made _ _ _) _
  have D1 : lies.Lies w0 (w.heap.size + 1) 24 #[.int .i64 b0, .int .i64 b1, .int .i64 b2, .int .i64 b3, .int .i64 b4, .int .i64 b5] := by rw [hX]; exact lies.made_at _ _ _ _ (by simp)
  have P0 := hP.on DB
  clear hP ha hb
  go_enter Tryd.func4, Tryd.ntmps4
  obtain ⟨⟨kD0_0, kD0_1, kD0_2, kD0_3, kD0_4, kD0_5⟩, -⟩ := six_cells D0
  have kD0_l := lies.lt D0
  obtain ⟨⟨kD1_0, kD1_1, kD1_2, kD1_3, kD1_4, kD1_5⟩, -⟩ := six_cells D1
  have kD1_l := lies.lt D1
  go_wp2_with fail
  clear kD0_0 kD0_1 kD0_2 kD0_3 kD0_4 kD0_5 kD0_l kD1_0 kD1_1 kD1_2 kD1_3 kD1_4 kD1_5 kD1_l
  rw [← hX]
  clear hX
  refine (comp_any a0 a1 a2 a3 a4 a5 b0 b1 b2 b3 b4 b5 w0 P0 TA.out TB.out).mono ?_
  rintro e w1 ⟨hB, c0, c1, c2, c3, c4, c5, e, rfl, hR⟩
  replace D0 := lies.on_call D0 hB
  replace D1 := lies.on_call D1 hB
  replace P0 := P0.on hB
  replace DB := later DB hB
  clear hB
  have HR := Lib.hid hR
  clear hR
  obtain ⟨⟨kD0_0, kD0_1, kD0_2, kD0_3, kD0_4, kD0_5⟩, -⟩ := six_cells D0
  have kD0_l := lies.lt D0
  obtain ⟨⟨kD1_0, kD1_1, kD1_2, kD1_3, kD1_4, kD1_5⟩, -⟩ := six_cells D1
  have kD1_l := lies.lt D1
  go_wp2_with fail
  clear kD0_0 kD0_1 kD0_2 kD0_3 kD0_4 kD0_5 kD0_l kD1_0 kD1_1 kD1_2 kD1_3 kD1_4 kD1_5 kD1_l
  have hA := bound.up1 w1 (.cells #[.int .i64 c0, .int .i64 c1, .int .i64 c2, .int .i64 c3, .int .i64 c4, .int .i64 c5] 24)
  have D2 := lies.made w1 24 #[.int .i64 c0, .int .i64 c1, .int .i64 c2, .int .i64 c3, .int .i64 c4, .int .i64 c5]
  replace D0 := lies.on_call D0 hA
  replace D1 := lies.on_call D1 hA
  replace P0 := P0.on hA
  replace DB := later DB hA
  clear hA
  generalize w1.heap.size = XD2 at D2 ⊢
  generalize w1.alloc (.cells #[.int .i64 c0, .int .i64 c1, .int .i64 c2, .int .i64 c3, .int .i64 c4, .int .i64 c5] 24) = v2 at D0 D1 D2 P0 DB ⊢
  refine (rcomp_any a0 a1 a2 a3 a4 a5 b0 b1 b2 b3 b4 b5 v2 LA.out LB.out TA.out TB.out).mono ?_
  rintro e w3 ⟨hB, d0, d1, d2, d3, d4, d5, f, rfl, hR⟩
  replace D0 := lies.on_call D0 hB
  replace D1 := lies.on_call D1 hB
  replace D2 := lies.on_call D2 hB
  replace P0 := P0.on hB
  replace DB := later DB hB
  clear hB
  obtain ⟨e1, e2⟩ := comp_one HR.out hR
  subst e2
  obtain ⟨rfl, rfl, rfl, rfl, rfl, rfl⟩ : c0 = d0 ∧ c1 = d1 ∧ c2 = d2 ∧ c3 = d3 ∧ c4 = d4 ∧ c5 = d5 := by simpa using e1.symm
  clear e1 hR HR
  obtain ⟨⟨kD0_0, kD0_1, kD0_2, kD0_3, kD0_4, kD0_5⟩, -⟩ := six_cells D0
  have kD0_l := lies.lt D0
  go_wp2_with fail
  clear kD0_0 kD0_1 kD0_2 kD0_3 kD0_4 kD0_5 kD0_l
  have hA := bound.up1 w3 (.cells #[.int .i64 c0, .int .i64 c1, .int .i64 c2, .int .i64 c3, .int .i64 c4, .int .i64 c5] 24)
  have D3 := lies.made w3 24 #[.int .i64 c0, .int .i64 c1, .int .i64 c2, .int .i64 c3, .int .i64 c4, .int .i64 c5]
  replace D0 := lies.on_call D0 hA
  replace D1 := lies.on_call D1 hA
  replace D2 := lies.on_call D2 hA
  replace P0 := P0.on hA
  replace DB := later DB hA
  clear hA
  generalize w3.heap.size = XD3 at D3 ⊢
  generalize w3.alloc (.cells #[.int .i64 c0, .int .i64 c1, .int .i64 c2, .int .i64 c3, .int .i64 c4, .int .i64 c5] 24) = v4 at D0 D1 D2 D3 P0 DB ⊢
  refine (back_any a0 a1 a2 a3 a4 a5 v4 P0 TA.out).mono ?_
  rintro e w5 ⟨hB, g0, g1, g2, g3, g4, g5, h, rfl, hR⟩
  replace D0 := lies.on_call D0 hB
  replace D1 := lies.on_call D1 hB
  replace D2 := lies.on_call D2 hB
  replace D3 := lies.on_call D3 hB
  replace P0 := P0.on hB
  replace DB := later DB hB
  clear hB
  have HR := Lib.hid hR
  clear hR
  obtain ⟨⟨kD0_0, kD0_1, kD0_2, kD0_3, kD0_4, kD0_5⟩, -⟩ := six_cells D0
  have kD0_l := lies.lt D0
  go_wp2_with fail
  clear kD0_0 kD0_1 kD0_2 kD0_3 kD0_4 kD0_5 kD0_l
  have hA := bound.up1 w5 (.cells #[.int .i64 g0, .int .i64 g1, .int .i64 g2, .int .i64 g3, .int .i64 g4, .int .i64 g5] 24)
  have D4 := lies.made w5 24 #[.int .i64 g0, .int .i64 g1, .int .i64 g2, .int .i64 g3, .int .i64 g4, .int .i64 g5]
  replace D0 := lies.on_call D0 hA
  replace D1 := lies.on_call D1 hA
  replace D2 := lies.on_call D2 hA
  replace D3 := lies.on_call D3 hA
  replace P0 := P0.on hA
  replace DB := later DB hA
  clear hA
  generalize w5.heap.size = XD4 at D4 ⊢
  generalize w5.alloc (.cells #[.int .i64 g0, .int .i64 g1, .int .i64 g2, .int .i64 g3, .int .i64 g4, .int .i64 g5] 24) = v6 at D0 D1 D2 D3 D4 P0 DB ⊢
  refine (rback_any a0 a1 a2 a3 a4 a5 v6 LA.out TA.out).mono ?_
  rintro e w7 ⟨hB, i0, i1, i2, i3, i4, i5, j, rfl, hR⟩
  replace D0 := lies.on_call D0 hB
  replace D1 := lies.on_call D1 hB
  replace D2 := lies.on_call D2 hB
  replace D3 := lies.on_call D3 hB
  replace D4 := lies.on_call D4 hB
  replace P0 := P0.on hB
  replace DB := later DB hB
  clear hB
  obtain ⟨e1, e2⟩ := back_one HR.out hR
  subst e2
  obtain ⟨rfl, rfl, rfl, rfl, rfl, rfl⟩ : g0 = i0 ∧ g1 = i1 ∧ g2 = i2 ∧ g3 = i3 ∧ g4 = i4 ∧ g5 = i5 := by simpa using e1.symm
  clear e1 hR HR
  obtain ⟨⟨kD0_0, kD0_1, kD0_2, kD0_3, kD0_4, kD0_5⟩, -⟩ := six_cells D0
  have kD0_l := lies.lt D0
  go_wp2_with fail
  clear kD0_0 kD0_1 kD0_2 kD0_3 kD0_4 kD0_5 kD0_l
  have hA := bound.up1 w7 (.cells #[.int .i64 g0, .int .i64 g1, .int .i64 g2, .int .i64 g3, .int .i64 g4, .int .i64 g5] 24)
  have D5 := lies.made w7 24 #[.int .i64 g0, .int .i64 g1, .int .i64 g2, .int .i64 g3, .int .i64 g4, .int .i64 g5]
  replace D0 := lies.on_call D0 hA
  replace D1 := lies.on_call D1 hA
  replace D2 := lies.on_call D2 hA
  replace D3 := lies.on_call D3 hA
  replace D4 := lies.on_call D4 hA
  replace P0 := P0.on hA
  replace DB := later DB hA
  clear hA
  generalize w7.heap.size = XD5 at D5 ⊢
  generalize w7.alloc (.cells #[.int .i64 g0, .int .i64 g1, .int .i64 g2, .int .i64 g3, .int .i64 g4, .int .i64 g5] 24) = v8 at D0 D1 D2 D3 D4 D5 P0 DB ⊢
  refine (firsts_any a0 a1 a2 a3 a4 a5 v8 P0 TA.out).mono ?_
  rintro e w9 ⟨hB, klo, kls, khi, khs, kop, l, rfl, hR⟩
  replace D0 := lies.on_call D0 hB
  replace D1 := lies.on_call D1 hB
  replace D2 := lies.on_call D2 hB
  replace D3 := lies.on_call D3 hB
  replace D4 := lies.on_call D4 hB
  replace D5 := lies.on_call D5 hB
  replace P0 := P0.on hB
  replace DB := later DB hB
  clear hB
  have HR := Lib.hid hR
  clear hR
  obtain ⟨⟨kD0_0, kD0_1, kD0_2, kD0_3, kD0_4, kD0_5⟩, -⟩ := six_cells D0
  have kD0_l := lies.lt D0
  go_wp2_with fail
  clear kD0_0 kD0_1 kD0_2 kD0_3 kD0_4 kD0_5 kD0_l
  have hA := bound.up1 w9 (.cells #[.int .i64 klo, .bool kls, .int .i64 khi, .bool khs, .bool kop] 27)
  have D6 := lies.made w9 27 #[.int .i64 klo, .bool kls, .int .i64 khi, .bool khs, .bool kop]
  replace D0 := lies.on_call D0 hA
  replace D1 := lies.on_call D1 hA
  replace D2 := lies.on_call D2 hA
  replace D3 := lies.on_call D3 hA
  replace D4 := lies.on_call D4 hA
  replace D5 := lies.on_call D5 hA
  replace P0 := P0.on hA
  replace DB := later DB hA
  clear hA
  generalize w9.heap.size = XD6 at D6 ⊢
  generalize w9.alloc (.cells #[.int .i64 klo, .bool kls, .int .i64 khi, .bool khs, .bool kop] 27) = v10 at D0 D1 D2 D3 D4 D5 D6 P0 DB ⊢
  refine (rfirsts_any a0 a1 a2 a3 a4 a5 v10 LA.out TA.out).mono ?_
  rintro e w11 ⟨hB, mlo, mls, mhi, mhs, mop, n, rfl, hR⟩
  replace D0 := lies.on_call D0 hB
  replace D1 := lies.on_call D1 hB
  replace D2 := lies.on_call D2 hB
  replace D3 := lies.on_call D3 hB
  replace D4 := lies.on_call D4 hB
  replace D5 := lies.on_call D5 hB
  replace D6 := lies.on_call D6 hB
  replace P0 := P0.on hB
  replace DB := later DB hB
  clear hB
  obtain ⟨e1, e2⟩ := firs_one HR.out hR
  subst e2
  simp only [Prod.mk.injEq] at e1
  obtain ⟨rfl, rfl, rfl, rfl, rfl⟩ := e1
  clear hR HR
  have q1 : ∀ W, (Op.equalIn 10000 24 (.agg #[.int .i64 c0, .int .i64 c1, .int .i64 c2, .int .i64 c3, .int .i64 c4, .int .i64 c5]) (.agg #[.int .i64 c0, .int .i64 c1, .int .i64 c2, .int .i64 c3, .int .i64 c4, .int .i64 c5])).run Tryd.prog W = .ok true W := fun W => by rw [eq_zone]; simp
  have q2 : ∀ W, (Op.equalIn 10000 24 (.agg #[.int .i64 g0, .int .i64 g1, .int .i64 g2, .int .i64 g3, .int .i64 g4, .int .i64 g5]) (.agg #[.int .i64 g0, .int .i64 g1, .int .i64 g2, .int .i64 g3, .int .i64 g4, .int .i64 g5])).run Tryd.prog W = .ok true W := fun W => by rw [eq_zone]; simp
  have q3 := eq_span mlo mhi mls mhs mop
  obtain ⟨⟨kD2_0, kD2_1, kD2_2, kD2_3, kD2_4, kD2_5⟩, -⟩ := six_cells D2
  have kD2_l := lies.lt D2
  obtain ⟨⟨kD3_0, kD3_1, kD3_2, kD3_3, kD3_4, kD3_5⟩, -⟩ := six_cells D3
  have kD3_l := lies.lt D3
  obtain ⟨⟨kD4_0, kD4_1, kD4_2, kD4_3, kD4_4, kD4_5⟩, -⟩ := six_cells D4
  have kD4_l := lies.lt D4
  obtain ⟨⟨kD5_0, kD5_1, kD5_2, kD5_3, kD5_4, kD5_5⟩, -⟩ := six_cells D5
  have kD5_l := lies.lt D5
  obtain ⟨⟨kD6_0, kD6_1, kD6_2, kD6_3, kD6_4⟩, -⟩ := five_cells D6
  have kD6_l := lies.lt D6
  go_wp2_with fail
  go_ret
  exact ⟨rfl, lies.frame_up DB _⟩

set_option maxRecDepth 100000 in
theorem lifted (os : Os) (started : os.Started) (H : Type) (enc : TypeId × Value → H) :
    ReturnsInHanded {} Tryd.checked os 4 .any (fun w args => (Rows.compTellsSpec.pre enc Tryd.prog Tryd.f4 [] false w args ∧ laidMetH Tryd.prog zopen.places w) ∧ sizedMet enc Tryd.prog Tryd.f4 (OpenSpec.ofChange Rows.compTellsSpec) false w args) (Rows.compTellsSpec.post enc Tryd.prog Tryd.f4 false true false false) := by
  refine returnsInHanded_of_change_and (C := Tryd.checked) (X := fun w _ => laidMetH Tryd.prog zopen.places w) (fun _ _ _ hh h => h.of_heap hh) law.own started (by kernel_rfl) Tryd.func4
    (ChangeSpec.witness_shaped (enc := enc) (C := Tryd.checked) (os := os) (X := fun w _ => laidMetH Tryd.prog zopen.places w) false (World.doorLaid Tryd.prog 400 os) #[.agg #[.int .i64 0, .int .i64 0, .int .i64 0, .int .i64 0, .int .i64 0, .int .i64 0], .agg #[.int .i64 0, .int .i64 0, .int .i64 0, .int .i64 0, .int .i64 0, .int .i64 0]] 8 rfl (World.shaped_of_RefB (by kernel_rfl) (by kernel_rfl)) (by kernel_rfl) (by kernel_rfl) (by kernel_rfl) (zopen.door_met os _)) ?_
  intro W base args ds gs before hval0 hW _ _ hL _
  have hval : ∀ (j : Nat) t v, Tryd.f4.params[j]? = some t → args[j]? = some v → Value.okWide Tryd.prog W .any base t v := hval0
  have hW' := hW
  obtain ⟨p, q, hA0, hV, rfl, _, _⟩ := hW
  have hA : DataW.TrodAll enc Tryd.prog W 0 (fun _ => true) true Tryd.f4.params.toList args.toList ds p := hA0
  rw [Tryd.params4] at hA hval
  obtain ⟨v0, vs0, d0, ds0, p0, q0, hargs, rfl, rfl, h0, r0⟩ := trodAll_cons hA
  obtain ⟨v1, vs1, d1, ds1, p1, q1, rfl, rfl, rfl, h1, r1⟩ := trodAll_cons r0
  obtain ⟨rfl, rfl, rfl⟩ := trodAll_nil r1
  obtain rfl : args = #[v0, v1] := by cases args; simp_all
  obtain ⟨z00, z01, z02, z03, z04, z05, rfl, w0⟩ := zopen.open_zone (hval 0 24 v0 rfl rfl) h0
  obtain ⟨z10, z11, z12, z13, z14, z15, rfl, w1⟩ := zopen.open_zone (hval 1 24 v1 rfl rfl) h1
  refine (walk z00 z01 z02 z03 z04 z05 z10 z11 z12 z13 z14 z15 W (fun x hx => ⟨law.wf_lo (w0 x hx), law.wf_hi (w0 x hx)⟩) (fun x hx => ⟨law.wf_lo (w1 x hx), law.wf_hi (w1 x hx)⟩) (zopen.laid_pl hL)).mono fun e W' ⟨he, hB⟩ => ?_
  subst he
  exact ⟨_, rfl, law.post_true law.laidOut (by kernel_rfl) rfl Tryd.underlying4 rfl hW' (fun h => by subst h; rfl) hB⟩

theorem proved : Rows.CompTellsSaid :=
  OpenClaim.holds_of_wide 4 Tryd.f4 rfl rfl rfl rfl rfl rfl rfl ⟨rfl, rfl, rfl, rfl, rfl⟩ rfl rfl rfl rfl rfl (by kernel_rfl) Tryd.func4 (by kernel_rfl)
    (of_decide_eq_true (by kernel_rfl)) (by unfold Func.isWrapper; first | (rw [if_pos (by decide +kernel)]; kernel_rfl) | (rw [if_neg (by decide +kernel)]; exact ⟨rfl, rfl⟩))
    (fun os started H enc _ => lifted os started H enc)
theorem card : Rows.CompTellsCardSaid :=
  Claim7.holds_tied_plain_at .later [] [.data] true (true, "e4e3719b7de1e4314314497030072501f33c4ef491c7e24e35a0e0bb01ea1702") false
    proved (fun _ h => by cases h) (by kernel_rfl) (fun _ h => by cases h) compTells_row_tie rfl ⟨rfl, rfl⟩ (by kernel_rfl) rfl
    (fun f fn hf hfn => by
      obtain rfl : f = 4 := Option.some.inj ((show Tryd.prog.funcNamed "rallentando/rallentandolaw09.CompTells" = some 4 by kernel_rfl).symm.trans hf) |>.symm
      obtain rfl : fn = Tryd.f4 := (Option.some.inj (Tryd.func4.symm.trans hfn)).symm
      exact ⟨by kernel_rfl, fun j t ht => by
        rw [Tryd.params4] at ht
        have hm : t ∈ [24, 24] := by simpa using Array.mem_of_getElem? ht
        have hall : ([24, 24].all fun u => !Tryd.prog.wantsStandIn u) = true := by kernel_rfl
        exact (show Tryd.prog.wantsStandIn t = false by simpa using List.all_eq_true.1 hall t hm)⟩)
    (by kernel_rfl)
#print axioms card
end Go.Proofs.YtngjkebmilpemaaDoor.compTells
