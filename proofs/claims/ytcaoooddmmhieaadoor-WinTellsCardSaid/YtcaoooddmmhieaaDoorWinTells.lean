/-
  WinTells answers true for every zone, span and two numbers; the listed variable reads as the program lays it.
-/
import Derived.Test.YtcaoooddmmhieaaDoorWinQ
import Derived.Test.YtcaoooddmmhieaaDoorCards
import Derived.Test.YtcaoooddmmhieaaDoorTie
import Derived.BigQuiet
namespace Go.Proofs.YtcaoooddmmhieaaDoor.winTells
open Go.Joins Go.ChangeShapes Go.WideShapes Go.ChangeAt Go.RowKit num rat dbm Go.Proofs.YtcaoooddmmhieaaDoor.tight Go.Proofs.YtcaoooddmmhieaaDoor.incl Go.Proofs.YtcaoooddmmhieaaDoor.plaw Go.Proofs.YtcaoooddmmhieaaDoor.zopen Go.Proofs.YtcaoooddmmhieaaDoor.zone Go.Proofs.YtcaoooddmmhieaaDoor.zlaw Go.Proofs.YtcaoooddmmhieaaDoor.win Go.Proofs.YtcaoooddmmhieaaDoor.wref dref
open bound hiding up
open Go.Proofs.YtcaoooddmmhieaaDoor.comp (five_cells)
set_option linter.unusedVariables false
set_option linter.unusedSimpArgs false

theorem cut_one {z w a b : List Int} {f g : Int} (h : CutR z w a f) (k : CutR z w b g) : b = a ∧ g = f := by
  rcases h with ⟨n, rfl, rfl⟩ | ⟨o, m, rfl, rfl⟩ | ⟨o, m, e, rfl⟩ <;> rcases k with ⟨n', rfl, rfl⟩ | ⟨o', m', rfl, rfl⟩ | ⟨o', m', e', rfl⟩
  all_goals first | exact ⟨rfl, rfl⟩ | exact ⟨e'.trans e.symm, rfl⟩ | exact (n o').elim | exact (n' o).elim | exact (m m').elim | exact (m' m).elim
theorem within_one {z a b : List Int} {s : Sp} {f g : Int} (h : WithinR z s a f) (k : WithinR z s b g) : b = a ∧ g = f := by
  rcases h with ⟨n, rfl, rfl⟩ | ⟨o, m, rfl, rfl⟩ | ⟨o, m, e⟩ <;> rcases k with ⟨n', rfl, rfl⟩ | ⟨o', m', rfl, rfl⟩ | ⟨o', m', e'⟩
  all_goals first | exact ⟨rfl, rfl⟩ | exact cut_one e e' | exact (n o').elim | exact (n' o).elim | exact (m m').elim | exact (m' m).elim
theorem window_one {z a b : List Int} {s t : Int} {f g : Int} (h : WindowR z s t a f) (k : WindowR z s t b g) : b = a ∧ g = f := by
  rcases h with ⟨n, rfl, rfl⟩ | ⟨o, m, rfl, rfl⟩ | ⟨o, m, e⟩ <;> rcases k with ⟨n', rfl, rfl⟩ | ⟨o', m', rfl, rfl⟩ | ⟨o', m', e'⟩
  all_goals first | exact ⟨rfl, rfl⟩ | exact cut_one e e' | exact (n o').elim | exact (n' o).elim | exact (m m').elim | exact (m' m).elim
theorem shift_one {z a b : List Int} {s : Int} {f g : Int} (h : ShiftR z s a f) (k : ShiftR z s b g) : b = a ∧ g = f := by
  rcases h with ⟨n, rfl, rfl⟩ | ⟨o, m, rfl, rfl⟩ | ⟨o, m, p, rfl, rfl⟩ | ⟨o, m, p, rfl, rfl⟩ <;> rcases k with ⟨n', rfl, rfl⟩ | ⟨o', m', rfl, rfl⟩ | ⟨o', m', p', rfl, rfl⟩ | ⟨o', m', p', rfl, rfl⟩
  all_goals first | exact ⟨rfl, rfl⟩ | exact (n o').elim | exact (n' o).elim | exact (m m').elim | exact (m' m).elim | exact (p p').elim | exact (p' p).elim

set_option maxRecDepth 100000 in
set_option maxHeartbeats 16000000 in
theorem walk (a0 a1 a2 a3 a4 a5 lo : Int) (ls : Bool) (hi : Int) (hs op : Bool) (fr tt : Int) (w : World) (ha : ∀ x ∈ [a0, a1, a2, a3, a4, a5], -9223372036854775808 ≤ x ∧ x ≤ 9223372036854775807) (hf : -9223372036854775808 ≤ fr ∧ fr ≤ 9223372036854775807) (ht : -9223372036854775808 ≤ tt ∧ tt ≤ 9223372036854775807) (hP : Pl w) : Calls Tryd.prog 4 #[.agg #[.int .i64 a0, .int .i64 a1, .int .i64 a2, .int .i64 a3, .int .i64 a4, .int .i64 a5], .agg #[.int .i64 lo, .bool ls, .int .i64 hi, .bool hs, .bool op], .int .i64 fr, .int .i64 tt] w fun e w' => e = .returned (.bool true) ∧ Below w.heap.size w w' := by
  have TA := Lib.hid (show Tops [a0, a1, a2, a3, a4, a5] from fun x hx => (ha x hx).2)
  have LA := Lib.hid (show Low [a0, a1, a2, a3, a4, a5] from fun x hx => (ha x hx).1)
  have X : ∃ w0, w0 = (w.alloc (.cells #[.int .i64 a0, .int .i64 a1, .int .i64 a2, .int .i64 a3, .int .i64 a4, .int .i64 a5] 24)).alloc (.cells #[.int .i64 lo, .bool ls, .int .i64 hi, .bool hs, .bool op] 31) := ⟨_, rfl⟩
  obtain ⟨w0, hX⟩ := X
  have DB : Below w.heap.size w w0 := by rw [hX]; exact bound.up2 _ _ _
  have D0 : lies.Lies w0 w.heap.size 24 #[.int .i64 a0, .int .i64 a1, .int .i64 a2, .int .i64 a3, .int .i64 a4, .int .i64 a5] := by rw [hX]; exact lies.on_alloc (lies.made _ _ _) _
  have D1 : lies.Lies w0 (w.heap.size + 1) 31 #[.int .i64 lo, .bool ls, .int .i64 hi, .bool hs, .bool op] := by rw [hX]; exact lies.made_at _ _ _ _ (by simp)
  have P0 := hP.on DB
  clear hP ha hf ht
  go_enter Tryd.func4, Tryd.ntmps4
  obtain ⟨⟨kD0_0, kD0_1, kD0_2, kD0_3, kD0_4, kD0_5⟩, -⟩ := six_cells D0
  have kD0_l := lies.lt D0
  obtain ⟨⟨kD1_0, kD1_1, kD1_2, kD1_3, kD1_4⟩, -⟩ := five_cells D1
  have kD1_l := lies.lt D1
  go_wp2_with fail
  clear kD0_0 kD0_1 kD0_2 kD0_3 kD0_4 kD0_5 kD0_l kD1_0 kD1_1 kD1_2 kD1_3 kD1_4 kD1_l
  rw [← hX]
  clear hX
  refine (within_any a0 a1 a2 a3 a4 a5 lo ls hi hs op w0 P0 TA.out).mono ?_
  rintro e w1 ⟨hB, b0, b1, b2, b3, b4, b5, eb, rfl, hX1⟩
  replace D0 := lies.on_call D0 hB
  replace D1 := lies.on_call D1 hB
  replace P0 := P0.on hB
  replace DB := later DB hB
  clear hB
  have HX := Lib.hid hX1
  clear hX1
  obtain ⟨⟨kD0_0, kD0_1, kD0_2, kD0_3, kD0_4, kD0_5⟩, -⟩ := six_cells D0
  have kD0_l := lies.lt D0
  obtain ⟨⟨kD1_0, kD1_1, kD1_2, kD1_3, kD1_4⟩, -⟩ := five_cells D1
  have kD1_l := lies.lt D1
  go_wp2_with fail
  clear kD0_0 kD0_1 kD0_2 kD0_3 kD0_4 kD0_5 kD0_l kD1_0 kD1_1 kD1_2 kD1_3 kD1_4 kD1_l
  have hA := bound.up1 w1 (.cells #[.int .i64 b0, .int .i64 b1, .int .i64 b2, .int .i64 b3, .int .i64 b4, .int .i64 b5] 24)
  have Db := lies.made w1 24 #[.int .i64 b0, .int .i64 b1, .int .i64 b2, .int .i64 b3, .int .i64 b4, .int .i64 b5]
  replace D0 := lies.on_call D0 hA
  replace D1 := lies.on_call D1 hA
  replace P0 := P0.on hA
  replace DB := later DB hA
  clear hA
  generalize w1.heap.size = XDb at Db ⊢
  generalize w1.alloc (.cells #[.int .i64 b0, .int .i64 b1, .int .i64 b2, .int .i64 b3, .int .i64 b4, .int .i64 b5] 24) = v2 at D0 D1 Db P0 DB ⊢
  refine (rwithin_any a0 a1 a2 a3 a4 a5 lo ls hi hs op v2 LA.out TA.out).mono ?_
  rintro e w3 ⟨hB, c0, c1, c2, c3, c4, c5, ec, rfl, hX1⟩
  replace D0 := lies.on_call D0 hB
  replace D1 := lies.on_call D1 hB
  replace Db := lies.on_call Db hB
  replace P0 := P0.on hB
  replace DB := later DB hB
  clear hB
  obtain ⟨e1, e2⟩ := within_one HX.out hX1
  subst e2
  obtain ⟨rfl, rfl, rfl, rfl, rfl, rfl⟩ : b0 = c0 ∧ b1 = c1 ∧ b2 = c2 ∧ b3 = c3 ∧ b4 = c4 ∧ b5 = c5 := by simpa using e1.symm
  clear e1 hX1 HX
  skip
  obtain ⟨⟨kD0_0, kD0_1, kD0_2, kD0_3, kD0_4, kD0_5⟩, -⟩ := six_cells D0
  have kD0_l := lies.lt D0
  go_wp2_with fail
  clear kD0_0 kD0_1 kD0_2 kD0_3 kD0_4 kD0_5 kD0_l
  have hA := bound.up1 w3 (.cells #[.int .i64 b0, .int .i64 b1, .int .i64 b2, .int .i64 b3, .int .i64 b4, .int .i64 b5] 24)
  have Dc := lies.made w3 24 #[.int .i64 b0, .int .i64 b1, .int .i64 b2, .int .i64 b3, .int .i64 b4, .int .i64 b5]
  replace D0 := lies.on_call D0 hA
  replace D1 := lies.on_call D1 hA
  replace Db := lies.on_call Db hA
  replace P0 := P0.on hA
  replace DB := later DB hA
  clear hA
  generalize w3.heap.size = XDc at Dc ⊢
  generalize w3.alloc (.cells #[.int .i64 b0, .int .i64 b1, .int .i64 b2, .int .i64 b3, .int .i64 b4, .int .i64 b5] 24) = v4 at D0 D1 Db Dc P0 DB ⊢
  refine (window_any a0 a1 a2 a3 a4 a5 fr tt v4 P0 TA.out).mono ?_
  rintro e w5 ⟨hB, d0, d1, d2, d3, d4, d5, ed, rfl, hX1⟩
  replace D0 := lies.on_call D0 hB
  replace D1 := lies.on_call D1 hB
  replace Db := lies.on_call Db hB
  replace Dc := lies.on_call Dc hB
  replace P0 := P0.on hB
  replace DB := later DB hB
  clear hB
  have HX := Lib.hid hX1
  clear hX1
  obtain ⟨⟨kD0_0, kD0_1, kD0_2, kD0_3, kD0_4, kD0_5⟩, -⟩ := six_cells D0
  have kD0_l := lies.lt D0
  go_wp2_with fail
  clear kD0_0 kD0_1 kD0_2 kD0_3 kD0_4 kD0_5 kD0_l
  have hA := bound.up1 w5 (.cells #[.int .i64 d0, .int .i64 d1, .int .i64 d2, .int .i64 d3, .int .i64 d4, .int .i64 d5] 24)
  have Dd := lies.made w5 24 #[.int .i64 d0, .int .i64 d1, .int .i64 d2, .int .i64 d3, .int .i64 d4, .int .i64 d5]
  replace D0 := lies.on_call D0 hA
  replace D1 := lies.on_call D1 hA
  replace Db := lies.on_call Db hA
  replace Dc := lies.on_call Dc hA
  replace P0 := P0.on hA
  replace DB := later DB hA
  clear hA
  generalize w5.heap.size = XDd at Dd ⊢
  generalize w5.alloc (.cells #[.int .i64 d0, .int .i64 d1, .int .i64 d2, .int .i64 d3, .int .i64 d4, .int .i64 d5] 24) = v6 at D0 D1 Db Dc Dd P0 DB ⊢
  refine (rwindow_any a0 a1 a2 a3 a4 a5 fr tt v6 LA.out TA.out).mono ?_
  rintro e w7 ⟨hB, f0, f1, f2, f3, f4, f5, ef, rfl, hX1⟩
  replace D0 := lies.on_call D0 hB
  replace D1 := lies.on_call D1 hB
  replace Db := lies.on_call Db hB
  replace Dc := lies.on_call Dc hB
  replace Dd := lies.on_call Dd hB
  replace P0 := P0.on hB
  replace DB := later DB hB
  clear hB
  obtain ⟨e1, e2⟩ := window_one HX.out hX1
  subst e2
  obtain ⟨rfl, rfl, rfl, rfl, rfl, rfl⟩ : d0 = f0 ∧ d1 = f1 ∧ d2 = f2 ∧ d3 = f3 ∧ d4 = f4 ∧ d5 = f5 := by simpa using e1.symm
  clear e1 hX1 HX
  skip
  obtain ⟨⟨kD0_0, kD0_1, kD0_2, kD0_3, kD0_4, kD0_5⟩, -⟩ := six_cells D0
  have kD0_l := lies.lt D0
  go_wp2_with fail
  clear kD0_0 kD0_1 kD0_2 kD0_3 kD0_4 kD0_5 kD0_l
  have hA := bound.up1 w7 (.cells #[.int .i64 d0, .int .i64 d1, .int .i64 d2, .int .i64 d3, .int .i64 d4, .int .i64 d5] 24)
  have Df := lies.made w7 24 #[.int .i64 d0, .int .i64 d1, .int .i64 d2, .int .i64 d3, .int .i64 d4, .int .i64 d5]
  replace D0 := lies.on_call D0 hA
  replace D1 := lies.on_call D1 hA
  replace Db := lies.on_call Db hA
  replace Dc := lies.on_call Dc hA
  replace Dd := lies.on_call Dd hA
  replace P0 := P0.on hA
  replace DB := later DB hA
  clear hA
  generalize w7.heap.size = XDf at Df ⊢
  generalize w7.alloc (.cells #[.int .i64 d0, .int .i64 d1, .int .i64 d2, .int .i64 d3, .int .i64 d4, .int .i64 d5] 24) = v8 at D0 D1 Db Dc Dd Df P0 DB ⊢
  refine (shift_any a0 a1 a2 a3 a4 a5 fr v8 P0 TA.out).mono ?_
  rintro e w9 ⟨hB, g0, g1, g2, g3, g4, g5, eg, rfl, hX1⟩
  replace D0 := lies.on_call D0 hB
  replace D1 := lies.on_call D1 hB
  replace Db := lies.on_call Db hB
  replace Dc := lies.on_call Dc hB
  replace Dd := lies.on_call Dd hB
  replace Df := lies.on_call Df hB
  replace P0 := P0.on hB
  replace DB := later DB hB
  clear hB
  have HX := Lib.hid hX1
  clear hX1
  obtain ⟨⟨kD0_0, kD0_1, kD0_2, kD0_3, kD0_4, kD0_5⟩, -⟩ := six_cells D0
  have kD0_l := lies.lt D0
  go_wp2_with fail
  clear kD0_0 kD0_1 kD0_2 kD0_3 kD0_4 kD0_5 kD0_l
  have hA := bound.up1 w9 (.cells #[.int .i64 g0, .int .i64 g1, .int .i64 g2, .int .i64 g3, .int .i64 g4, .int .i64 g5] 24)
  have Dg := lies.made w9 24 #[.int .i64 g0, .int .i64 g1, .int .i64 g2, .int .i64 g3, .int .i64 g4, .int .i64 g5]
  replace D0 := lies.on_call D0 hA
  replace D1 := lies.on_call D1 hA
  replace Db := lies.on_call Db hA
  replace Dc := lies.on_call Dc hA
  replace Dd := lies.on_call Dd hA
  replace Df := lies.on_call Df hA
  replace P0 := P0.on hA
  replace DB := later DB hA
  clear hA
  generalize w9.heap.size = XDg at Dg ⊢
  generalize w9.alloc (.cells #[.int .i64 g0, .int .i64 g1, .int .i64 g2, .int .i64 g3, .int .i64 g4, .int .i64 g5] 24) = v10 at D0 D1 Db Dc Dd Df Dg P0 DB ⊢
  refine (rshift_any a0 a1 a2 a3 a4 a5 fr v10 LA.out TA.out).mono ?_
  rintro e w11 ⟨hB, h0, h1, h2, h3, h4, h5, eh, rfl, hX1⟩
  replace D0 := lies.on_call D0 hB
  replace D1 := lies.on_call D1 hB
  replace Db := lies.on_call Db hB
  replace Dc := lies.on_call Dc hB
  replace Dd := lies.on_call Dd hB
  replace Df := lies.on_call Df hB
  replace Dg := lies.on_call Dg hB
  replace P0 := P0.on hB
  replace DB := later DB hB
  clear hB
  obtain ⟨e1, e2⟩ := shift_one HX.out hX1
  subst e2
  obtain ⟨rfl, rfl, rfl, rfl, rfl, rfl⟩ : g0 = h0 ∧ g1 = h1 ∧ g2 = h2 ∧ g3 = h3 ∧ g4 = h4 ∧ g5 = h5 := by simpa using e1.symm
  clear e1 hX1 HX
  skip
  have hqb : ∀ W, (Op.equalIn 10000 24 (.agg #[.int .i64 b0, .int .i64 b1, .int .i64 b2, .int .i64 b3, .int .i64 b4, .int .i64 b5]) (.agg #[.int .i64 b0, .int .i64 b1, .int .i64 b2, .int .i64 b3, .int .i64 b4, .int .i64 b5])).run Tryd.prog W = .ok true W := fun W => by rw [eq_zone]; simp
  have hqd : ∀ W, (Op.equalIn 10000 24 (.agg #[.int .i64 d0, .int .i64 d1, .int .i64 d2, .int .i64 d3, .int .i64 d4, .int .i64 d5]) (.agg #[.int .i64 d0, .int .i64 d1, .int .i64 d2, .int .i64 d3, .int .i64 d4, .int .i64 d5])).run Tryd.prog W = .ok true W := fun W => by rw [eq_zone]; simp
  have hqg : ∀ W, (Op.equalIn 10000 24 (.agg #[.int .i64 g0, .int .i64 g1, .int .i64 g2, .int .i64 g3, .int .i64 g4, .int .i64 g5]) (.agg #[.int .i64 g0, .int .i64 g1, .int .i64 g2, .int .i64 g3, .int .i64 g4, .int .i64 g5])).run Tryd.prog W = .ok true W := fun W => by rw [eq_zone]; simp
  obtain ⟨⟨kDb_0, kDb_1, kDb_2, kDb_3, kDb_4, kDb_5⟩, -⟩ := six_cells Db
  have kDb_l := lies.lt Db
  obtain ⟨⟨kDc_0, kDc_1, kDc_2, kDc_3, kDc_4, kDc_5⟩, -⟩ := six_cells Dc
  have kDc_l := lies.lt Dc
  obtain ⟨⟨kDd_0, kDd_1, kDd_2, kDd_3, kDd_4, kDd_5⟩, -⟩ := six_cells Dd
  have kDd_l := lies.lt Dd
  obtain ⟨⟨kDf_0, kDf_1, kDf_2, kDf_3, kDf_4, kDf_5⟩, -⟩ := six_cells Df
  have kDf_l := lies.lt Df
  obtain ⟨⟨kDg_0, kDg_1, kDg_2, kDg_3, kDg_4, kDg_5⟩, -⟩ := six_cells Dg
  have kDg_l := lies.lt Dg
  go_wp2_with fail
  go_ret
  exact ⟨rfl, lies.frame_up DB _⟩

set_option maxRecDepth 100000 in
theorem lifted (os : Os) (started : os.Started) (H : Type) (enc : TypeId × Value → H) :
    ReturnsInHanded {} Tryd.checked os 4 .any (fun w args => (Rows.winTellsSpec.pre enc Tryd.prog Tryd.f4 [] false w args ∧ laidMetH Tryd.prog zopen.places w) ∧ sizedMet enc Tryd.prog Tryd.f4 (OpenSpec.ofChange Rows.winTellsSpec) false w args) (Rows.winTellsSpec.post enc Tryd.prog Tryd.f4 false true false false) := by
  refine returnsInHanded_of_change_and (C := Tryd.checked) (X := fun w _ => laidMetH Tryd.prog zopen.places w) (fun _ _ _ hh h => h.of_heap hh) law.own started (by kernel_rfl) Tryd.func4
    (ChangeSpec.witness_shaped (enc := enc) (C := Tryd.checked) (os := os) (X := fun w _ => laidMetH Tryd.prog zopen.places w) false (World.doorLaid Tryd.prog 400 os) #[.agg #[.int .i64 0, .int .i64 0, .int .i64 0, .int .i64 0, .int .i64 0, .int .i64 0], .agg #[.int .i64 0, .bool false, .int .i64 0, .bool false, .bool false], .int .i64 0, .int .i64 0] 8 rfl (World.shaped_of_RefB (by kernel_rfl) (by kernel_rfl)) (by kernel_rfl) (by kernel_rfl) (by kernel_rfl) (zopen.door_met os _)) ?_
  intro W base args ds gs before hval0 hW _ _ hL _
  have hval : ∀ (j : Nat) t v, Tryd.f4.params[j]? = some t → args[j]? = some v → Value.okWide Tryd.prog W .any base t v := hval0
  have hW' := hW
  obtain ⟨p, q, hA0, hV, rfl, _, _⟩ := hW
  have hA : DataW.TrodAll enc Tryd.prog W 0 (fun _ => true) true Tryd.f4.params.toList args.toList ds p := hA0
  rw [Tryd.params4] at hA hval
  obtain ⟨v0, vs0, d0, ds0, p0, q0, hargs, rfl, rfl, h0, r0⟩ := trodAll_cons hA
  obtain ⟨v1, vs1, d1, ds1, p1, q1, rfl, rfl, rfl, h1, r1⟩ := trodAll_cons r0
  obtain ⟨v2, vs2, d2, ds2, p2, q2, rfl, rfl, rfl, h2, r2⟩ := trodAll_cons r1
  obtain ⟨v3, vs3, d3, ds3, p3, q3, rfl, rfl, rfl, h3, r3⟩ := trodAll_cons r2
  obtain ⟨rfl, rfl, rfl⟩ := trodAll_nil r3
  obtain rfl : args = #[v0, v1, v2, v3] := by cases args; simp_all
  obtain ⟨z00, z01, z02, z03, z04, z05, rfl, w0⟩ := zopen.open_zone (hval 0 24 v0 rfl rfl) h0
  obtain ⟨lo1, ls1, hi1, hs1, op1, rfl⟩ := tlaw.open_span (hval 1 31 v1 rfl rfl) h1
  obtain ⟨m2, rfl, rfl, rfl, x2⟩ := open_int Tryd.underlying3 (hval 2 3 v2 rfl rfl) h2
  obtain ⟨m3, rfl, rfl, rfl, x3⟩ := open_int Tryd.underlying3 (hval 3 3 v3 rfl rfl) h3
  refine (walk z00 z01 z02 z03 z04 z05 lo1 ls1 hi1 hs1 op1 m2 m3 W (fun x hx => ⟨law.wf_lo (w0 x hx), law.wf_hi (w0 x hx)⟩) ⟨law.wf_lo x2, law.wf_hi x2⟩ ⟨law.wf_lo x3, law.wf_hi x3⟩ (zopen.laid_pl hL)).mono fun e W' ⟨he, hB⟩ => ?_
  subst he
  exact ⟨_, rfl, law.post_true law.laidOut (by kernel_rfl) rfl Tryd.underlying4 rfl hW' (fun h => by subst h; rfl) hB⟩

theorem proved : Rows.WinTellsSaid :=
  OpenClaim.holds_of_wide 4 Tryd.f4 rfl rfl rfl rfl rfl rfl rfl ⟨rfl, rfl, rfl, rfl, rfl⟩ rfl rfl rfl rfl rfl (by kernel_rfl) Tryd.func4 (by kernel_rfl)
    (of_decide_eq_true (by kernel_rfl)) (by unfold Func.isWrapper; first | (rw [if_pos (by decide +kernel)]; kernel_rfl) | (rw [if_neg (by decide +kernel)]; exact ⟨rfl, rfl⟩))
    (fun os started H enc _ => lifted os started H enc)
theorem card : Rows.WinTellsCardSaid :=
  Claim7.holds_tied_plain_at .later [] [.data] true (true, "0e35938ca2f85e4d4a747e9ff2f0a86df4808d42b014bcedf4017d6c199ae299") false
    proved (fun _ h => by cases h) (by kernel_rfl) (fun _ h => by cases h) winTells_row_tie rfl ⟨rfl, rfl⟩ (by kernel_rfl) rfl
    (fun f fn hf hfn => by
      obtain rfl : f = 4 := Option.some.inj ((show Tryd.prog.funcNamed "rallentando/rallentandolaw10.WinTells" = some 4 by kernel_rfl).symm.trans hf) |>.symm
      obtain rfl : fn = Tryd.f4 := (Option.some.inj (Tryd.func4.symm.trans hfn)).symm
      exact ⟨by kernel_rfl, fun j t ht => by
        rw [Tryd.params4] at ht
        have hm : t ∈ [24, 31, 3, 3] := by simpa using Array.mem_of_getElem? ht
        have hall : ([24, 31, 3, 3].all fun u => !Tryd.prog.wantsStandIn u) = true := by kernel_rfl
        exact (show Tryd.prog.wantsStandIn t = false by simpa using List.all_eq_true.1 hall t hm)⟩)
    (by kernel_rfl)
#print axioms card
end Go.Proofs.YtcaoooddmmhieaaDoor.winTells
