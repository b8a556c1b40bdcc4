/-
  ZoneTells answers true for every two zones, matrix and point; the listed variable reads as the program lays it.
-/
import Derived.Test.YtklejbheieceeaaGreatDoorZoneY
import Derived.Test.YtklejbheieceeaaGreatDoorZoneN
import Derived.Test.YtklejbheieceeaaGreatDoorZoneQ
import Derived.Test.YtklejbheieceeaaGreatDoorTightD
import Derived.Test.YtklejbheieceeaaGreatDoorCards
import Derived.Test.YtklejbheieceeaaGreatDoorTie
import Derived.BigQuiet
namespace Go.Proofs.YtklejbheieceeaaGreatDoor.zoneTells
open Go.Joins Go.ChangeShapes Go.WideShapes Go.ChangeAt Go.RowKit num rat dbm Go.Proofs.YtklejbheieceeaaGreatDoor.tight Go.Proofs.YtklejbheieceeaaGreatDoor.incl Go.Proofs.YtklejbheieceeaaGreatDoor.plaw Go.Proofs.YtklejbheieceeaaGreatDoor.zopen Go.Proofs.YtklejbheieceeaaGreatDoor.zone Go.Proofs.YtklejbheieceeaaGreatDoor.zref
open bound hiding up
set_option linter.unusedVariables false
set_option linter.unusedSimpArgs false

theorem bool_one {r s : Bool} {p : Prop} (h : r = true ↔ p) (k : s = true ↔ p) : s = r := by
  cases r <;> cases s
  · rfl
  · exact absurd (h.2 (k.1 rfl)) (by decide)
  · exact absurd (k.2 (h.1 rfl)) (by decide)
  · rfl
theorem mat_one {z : List Int} {na nb : Int} {us vs : List Int} {f g : Int} (h : MatR z na us f) (k : MatR z nb vs g) : nb = na ∧ vs = us ∧ g = f := by
  rcases h with ⟨m, rfl, rfl, rfl⟩ | ⟨m, rfl, rfl, rfl⟩ <;> rcases k with ⟨m', rfl, rfl, rfl⟩ | ⟨m', rfl, rfl, rfl⟩
  · exact ⟨rfl, rfl, rfl⟩
  · exact (m' m).elim
  · exact (m m').elim
  · exact ⟨rfl, rfl, rfl⟩
theorem mat_len {z : List Int} {na : Int} {us : List Int} {f : Int} (h : MatR z na us f) : us.length ≤ 1000000 := by
  rcases h with ⟨m, rfl, rfl, rfl⟩ | ⟨m, rfl, rfl, rfl⟩
  · show 9 ≤ 1000000; decide
  · show 0 ≤ 1000000; decide
theorem of_one {n : Int} {ts z z' : List Int} {f f' : Int} (h : OfR n ts z f) (k : OfR n ts z' f') : z' = z ∧ f' = f := by
  rcases h with ⟨m, rfl, rfl⟩ | ⟨m, t, rfl, rfl⟩ | ⟨m, t, o, rfl, rfl⟩ | ⟨t, o, c, rfl, rfl⟩ | ⟨t, o, c, hz, rfl⟩ <;> rcases k with ⟨m', rfl, rfl⟩ | ⟨m', t', rfl, rfl⟩ | ⟨m', t', o', rfl, rfl⟩ | ⟨t', o', c', rfl, rfl⟩ | ⟨t', o', c', hz', rfl⟩
  all_goals first | exact ⟨rfl, rfl⟩ | exact ⟨hz'.trans hz.symm, rfl⟩ | exact (m m').elim | exact (m' m).elim | exact (t t').elim | exact (t' t).elim | exact (o o').elim | exact (o' o).elim | exact (c c').elim | exact (c' c).elim | exact (m (by rw [t']; exact o'.1)).elim | exact (m' (by rw [t]; exact o.1)).elim
theorem has_one {z : List Int} {a b c d : Int} {r s : Bool} {f g : Int} (h : HasR z a b c d r f) (k : HasR z a b c d s g) : s = r ∧ g = f := by
  rcases h with ⟨m, rfl, rfl⟩ | ⟨m1, m2, m3, rfl, hi⟩ <;> rcases k with ⟨n, rfl, rfl⟩ | ⟨n1, n2, n3, rfl, hj⟩
  · exact ⟨rfl, rfl⟩
  · exact (m ⟨n1, n2, n3⟩).elim
  · exact (n ⟨m1, m2, m3⟩).elim
  · exact ⟨bool_one hi hj, rfl⟩
theorem in_one {a b : List Int} {r s : Bool} {f g : Int} (h : InR a b r f) (k : InR a b s g) : s = r ∧ g = f := by
  rcases h with ⟨m, rfl, rfl⟩ | ⟨m1, m2, rfl, hi⟩ <;> rcases k with ⟨n, rfl, rfl⟩ | ⟨n1, n2, rfl, hj⟩
  · exact ⟨rfl, rfl⟩
  · exact (m ⟨n1, n2⟩).elim
  · exact (n ⟨m1, m2⟩).elim
  · exact ⟨bool_one hi hj, rfl⟩
theorem meet_one {a b z z' : List Int} {f f' : Int} (h : MeetR a b z f) (k : MeetR a b z' f') : z' = z ∧ f' = f := by
  rcases h with ⟨m, rfl, rfl⟩ | ⟨p, q, o, rfl, rfl⟩ | ⟨p, q, o, c, rfl, rfl⟩ | ⟨p, q, o, c, hz, rfl⟩ <;> rcases k with ⟨m', rfl, rfl⟩ | ⟨p', q', o', rfl, rfl⟩ | ⟨p', q', o', c', rfl, rfl⟩ | ⟨p', q', o', c', hz', rfl⟩
  all_goals first | exact ⟨rfl, rfl⟩ | exact ⟨hz'.trans hz.symm, rfl⟩ | exact (m ⟨p', q'⟩).elim | exact (m' ⟨p, q⟩).elim | exact (o o').elim | exact (o' o).elim | exact (c c').elim | exact (c' c).elim
theorem pick_one {z : List Int} {a b c d f a' b' c' d' f' : Int} (h : PickR z a b c d f) (k : PickR z a' b' c' d' f') : a' = a ∧ b' = b ∧ c' = c ∧ d' = d ∧ f' = f := by
  rcases h with ⟨m, rfl, rfl, rfl, rfl, rfl⟩ | ⟨m, hp, rfl⟩ <;> rcases k with ⟨m', rfl, rfl, rfl, rfl, rfl⟩ | ⟨m', hp', rfl⟩
  · exact ⟨rfl, rfl, rfl, rfl, rfl⟩
  · exact (m m').elim
  · exact (m' m).elim
  · have e := hp'.symm.trans hp
    simp only [List.cons.injEq, Prod.mk.injEq, and_true] at e
    exact ⟨e.1.1, e.1.2, e.2.1, e.2.2, rfl⟩
theorem chk_one {z : List Int} {f g : Int} (h : (MayZ z ∧ f = 0) ∨ (¬ MayZ z ∧ f = 8)) (k : (MayZ z ∧ g = 0) ∨ (¬ MayZ z ∧ g = 8)) : g = f := by
  rcases h with ⟨m, rfl⟩ | ⟨m, rfl⟩ <;> rcases k with ⟨n, rfl⟩ | ⟨n, rfl⟩
  · rfl
  · exact (n m).elim
  · exact (m n).elim
  · rfl
set_option maxRecDepth 100000 in
set_option maxHeartbeats 16000000 in
theorem walk (a0 a1 a2 a3 a4 a5 b0 b1 b2 b3 b4 b5 : Int) (n : Int) (sv : Value) (ts : List Int) (pa pb pc pd : Int) (w : World) (hI : law.Ints w.heap.size w sv ts) (ha : ∀ x ∈ [a0, a1, a2, a3, a4, a5], -9223372036854775808 ≤ x ∧ x ≤ 9223372036854775807) (hb : ∀ x ∈ [b0, b1, b2, b3, b4, b5], -9223372036854775808 ≤ x ∧ x ≤ 9223372036854775807) (ht : ∀ x ∈ ts, -9223372036854775808 ≤ x ∧ x ≤ 9223372036854775807) (hp : ∀ x ∈ [pa, pb, pc, pd], -9223372036854775808 ≤ x ∧ x ≤ 9223372036854775807) (hP : Pl w) :
    Calls Tryz.prog 3 #[.agg #[.int .i64 a0, .int .i64 a1, .int .i64 a2, .int .i64 a3, .int .i64 a4, .int .i64 a5], .agg #[.int .i64 b0, .int .i64 b1, .int .i64 b2, .int .i64 b3, .int .i64 b4, .int .i64 b5], .agg #[.int .i64 n, sv], .agg #[.int .i64 pa, .int .i64 pb, .int .i64 pc, .int .i64 pd]] w fun e w' => e = .returned (.bool true) ∧ Below w.heap.size w w' := by
  have TA := Lib.hid (show Tops [a0, a1, a2, a3, a4, a5] from fun x hx => (ha x hx).2)
  have TB := Lib.hid (show Tops [b0, b1, b2, b3, b4, b5] from fun x hx => (hb x hx).2)
  have LA := Lib.hid (show dref.Low [a0, a1, a2, a3, a4, a5] from fun x hx => (ha x hx).1)
  have LB := Lib.hid (show dref.Low [b0, b1, b2, b3, b4, b5] from fun x hx => (hb x hx).1)
  have TT := Lib.hid (show Tops ts from fun x hx => (ht x hx).2)
  have LT := Lib.hid (show dref.Low ts from fun x hx => (ht x hx).1)
  have HF := Lib.hid (show zone.Fit [pa, pb, pc, pd] from hp)
  obtain ⟨ad, cap, rfl⟩ := ints_len hI
  have DB : Below w.heap.size w ((((w.alloc (.cells #[.int .i64 a0, .int .i64 a1, .int .i64 a2, .int .i64 a3, .int .i64 a4, .int .i64 a5] 24)).alloc (.cells #[.int .i64 b0, .int .i64 b1, .int .i64 b2, .int .i64 b3, .int .i64 b4, .int .i64 b5] 24)).alloc (.cells #[.int .i64 n, .slice ad ts.length cap] 27)).alloc (.cells #[.int .i64 pa, .int .i64 pb, .int .i64 pc, .int .i64 pd] 31)) := lies.frame_up (bound.up3 _ _ _ _) _
  have D0 : lies.Lies ((((w.alloc (.cells #[.int .i64 a0, .int .i64 a1, .int .i64 a2, .int .i64 a3, .int .i64 a4, .int .i64 a5] 24)).alloc (.cells #[.int .i64 b0, .int .i64 b1, .int .i64 b2, .int .i64 b3, .int .i64 b4, .int .i64 b5] 24)).alloc (.cells #[.int .i64 n, .slice ad ts.length cap] 27)).alloc (.cells #[.int .i64 pa, .int .i64 pb, .int .i64 pc, .int .i64 pd] 31)) w.heap.size 24 #[.int .i64 a0, .int .i64 a1, .int .i64 a2, .int .i64 a3, .int .i64 a4, .int .i64 a5] := lies.on_alloc (lies.on_alloc (lies.on_alloc (lies.made _ _ _) _) _) _
  have D1 : lies.Lies ((((w.alloc (.cells #[.int .i64 a0, .int .i64 a1, .int .i64 a2, .int .i64 a3, .int .i64 a4, .int .i64 a5] 24)).alloc (.cells #[.int .i64 b0, .int .i64 b1, .int .i64 b2, .int .i64 b3, .int .i64 b4, .int .i64 b5] 24)).alloc (.cells #[.int .i64 n, .slice ad ts.length cap] 27)).alloc (.cells #[.int .i64 pa, .int .i64 pb, .int .i64 pc, .int .i64 pd] 31)) (w.heap.size + 1) 24 #[.int .i64 b0, .int .i64 b1, .int .i64 b2, .int .i64 b3, .int .i64 b4, .int .i64 b5] := lies.on_alloc (lies.on_alloc (lies.made_at _ _ _ _ (by simp)) _) _
  have D2 : lies.Lies ((((w.alloc (.cells #[.int .i64 a0, .int .i64 a1, .int .i64 a2, .int .i64 a3, .int .i64 a4, .int .i64 a5] 24)).alloc (.cells #[.int .i64 b0, .int .i64 b1, .int .i64 b2, .int .i64 b3, .int .i64 b4, .int .i64 b5] 24)).alloc (.cells #[.int .i64 n, .slice ad ts.length cap] 27)).alloc (.cells #[.int .i64 pa, .int .i64 pb, .int .i64 pc, .int .i64 pd] 31)) (w.heap.size + 1 + 1) 27 #[.int .i64 n, .slice ad ts.length cap] := lies.on_alloc (lies.made_at _ _ _ _ (by simp)) _
  have D3 : lies.Lies ((((w.alloc (.cells #[.int .i64 a0, .int .i64 a1, .int .i64 a2, .int .i64 a3, .int .i64 a4, .int .i64 a5] 24)).alloc (.cells #[.int .i64 b0, .int .i64 b1, .int .i64 b2, .int .i64 b3, .int .i64 b4, .int .i64 b5] 24)).alloc (.cells #[.int .i64 n, .slice ad ts.length cap] 27)).alloc (.cells #[.int .i64 pa, .int .i64 pb, .int .i64 pc, .int .i64 pd] 31)) (w.heap.size + 1 + 1 + 1) 31 #[.int .i64 pa, .int .i64 pb, .int .i64 pc, .int .i64 pd] := lies.made_at _ _ _ _ (by simp)
  have P0 := hP.on DB
  have HI := Lib.hid ((hI.below DB).mono DB.size)
  by_cases hlen : ts.length ≤ 1000
  · have t1 : ¬ (1000 : Int) < ts.length := by omega
    have HLEN := Lib.hid (show ts.length ≤ 1000000 by omega)
    clear hP ha hb hp ht hI hlen
    go_enter Tryz.func3, Tryz.ntmps3
    obtain ⟨⟨ka0, ka1, ka2, ka3, ka4, ka5⟩, _⟩ := six_cells D0
    have kal := lies.lt D0
    obtain ⟨kd0, kd1, kd2, kd3, kdl⟩ := lies.two D2
    go_wp2_with fail
    clear ka0 ka1 ka2 ka3 ka4 ka5 kal kd0 kd1 kd2 kd3 kdl t1
    generalize (((w.alloc (.cells #[.int .i64 a0, .int .i64 a1, .int .i64 a2, .int .i64 a3, .int .i64 a4, .int .i64 a5] 24)).alloc (.cells #[.int .i64 b0, .int .i64 b1, .int .i64 b2, .int .i64 b3, .int .i64 b4, .int .i64 b5] 24)).alloc (.cells #[.int .i64 n, .slice ad ts.length cap] 27)).alloc (.cells #[.int .i64 pa, .int .i64 pb, .int .i64 pc, .int .i64 pd] 31) = w0 at D0 D1 D2 D3 P0 DB HI ⊢
    generalize w.heap.size + 1 + 1 + 1 = A3 at D3 ⊢
    generalize w.heap.size + 1 + 1 = A2 at D2 ⊢
    generalize w.heap.size + 1 = A1 at D1 ⊢
    generalize w.heap.size = A0 at D0 ⊢
    refine (matrix_any a0 a1 a2 a3 a4 a5 w0 P0 TA.out).mono ?_
    rintro e w1 ⟨hB, na, aa, la, ca, us, f1, rfl, hM, hK⟩
    have HM := Lib.hid hM
    have IC := Lib.hid hK.ints
    replace D0 := lies.on_call D0 hB
    replace D1 := lies.on_call D1 hB
    replace D2 := lies.on_call D2 hB
    replace D3 := lies.on_call D3 hB
    replace HI := Lib.hid ((HI.out.below hB).mono hB.size)
    replace P0 := P0.on hB
    replace DB := later DB hB
    clear hB
    clear hM hK
    obtain ⟨⟨ka0, ka1, ka2, ka3, ka4, ka5⟩, _⟩ := six_cells D0
    have kal := lies.lt D0
    go_wp2_with fail
    clear ka0 ka1 ka2 ka3 ka4 ka5 kal
    have hA := bound.up1 w1 (.cells #[.int .i64 na, .slice aa la ca] 27)
    have LC := lies.made w1 27 #[.int .i64 na, .slice aa la ca]
    replace D0 := lies.on_call D0 hA
    replace D1 := lies.on_call D1 hA
    replace D2 := lies.on_call D2 hA
    replace D3 := lies.on_call D3 hA
    replace HI := Lib.hid ((HI.out.below hA).mono hA.size)
    replace IC := Lib.hid ((IC.out.below hA).mono hA.size)
    replace P0 := P0.on hA
    replace DB := later DB hA
    clear hA
    generalize w1.heap.size = KLC at LC ⊢
    generalize w1.alloc (.cells #[.int .i64 na, .slice aa la ca] 27) = w1x at D0 D1 D2 D3 LC HI IC P0 DB ⊢
    refine (rmatrix_any a0 a1 a2 a3 a4 a5 w1x LA.out TA.out).mono ?_
    rintro e w2 ⟨hB, nb, ab, lb, cb, vs, f2, rfl, hM, hK⟩
    have IF := Lib.hid hK.ints
    obtain ⟨rfl, rfl, rfl⟩ := mat_one HM.out hM
    replace D0 := lies.on_call D0 hB
    replace D1 := lies.on_call D1 hB
    replace D2 := lies.on_call D2 hB
    replace D3 := lies.on_call D3 hB
    replace LC := lies.on_call LC hB
    replace HI := Lib.hid ((HI.out.below hB).mono hB.size)
    replace IC := Lib.hid ((IC.out.below hB).mono hB.size)
    replace P0 := P0.on hB
    replace DB := later DB hB
    clear hB
    have HLU := Lib.hid (mat_len hM)
    clear hM hK HM
    obtain ⟨kd0, kd1, kd2, kd3, kdl⟩ := lies.two D2
    go_wp2_with fail
    clear kd0 kd1 kd2 kd3 kdl
    have hA := bound.up1 w2 (.cells #[.int .i64 nb, .slice ab lb cb] 27)
    have LF := lies.made w2 27 #[.int .i64 nb, .slice ab lb cb]
    replace D0 := lies.on_call D0 hA
    replace D1 := lies.on_call D1 hA
    replace D2 := lies.on_call D2 hA
    replace D3 := lies.on_call D3 hA
    replace LC := lies.on_call LC hA
    replace HI := Lib.hid ((HI.out.below hA).mono hA.size)
    replace IC := Lib.hid ((IC.out.below hA).mono hA.size)
    replace IF := Lib.hid ((IF.out.below hA).mono hA.size)
    replace P0 := P0.on hA
    replace DB := later DB hA
    clear hA
    generalize w2.heap.size = KLF at LF ⊢
    generalize w2.alloc (.cells #[.int .i64 nb, .slice ab lb cb] 27) = w2x at D0 D1 D2 D3 LC LF HI IC IF P0 DB ⊢
    refine (of_any n (.slice ad ts.length cap) ts w2x P0 HI.out HLEN.out TT.out).mono ?_
    rintro e w3 ⟨hB, h0, h1, h2, h3, h4, h5, f3, rfl, hR⟩
    have HR := Lib.hid hR
    replace D0 := lies.on_call D0 hB
    replace D1 := lies.on_call D1 hB
    replace D2 := lies.on_call D2 hB
    replace D3 := lies.on_call D3 hB
    replace LC := lies.on_call LC hB
    replace LF := lies.on_call LF hB
    replace HI := Lib.hid ((HI.out.below hB).mono hB.size)
    replace IC := Lib.hid ((IC.out.below hB).mono hB.size)
    replace IF := Lib.hid ((IF.out.below hB).mono hB.size)
    replace P0 := P0.on hB
    replace DB := later DB hB
    clear hB
    clear hR
    obtain ⟨kd0, kd1, kd2, kd3, kdl⟩ := lies.two D2
    go_wp2_with fail
    clear kd0 kd1 kd2 kd3 kdl
    have hA := bound.up1 w3 (.cells #[.int .i64 h0, .int .i64 h1, .int .i64 h2, .int .i64 h3, .int .i64 h4, .int .i64 h5] 24)
    have LH := lies.made w3 24 #[.int .i64 h0, .int .i64 h1, .int .i64 h2, .int .i64 h3, .int .i64 h4, .int .i64 h5]
    replace D0 := lies.on_call D0 hA
    replace D1 := lies.on_call D1 hA
    replace D2 := lies.on_call D2 hA
    replace D3 := lies.on_call D3 hA
    replace LC := lies.on_call LC hA
    replace LF := lies.on_call LF hA
    replace HI := Lib.hid ((HI.out.below hA).mono hA.size)
    replace IC := Lib.hid ((IC.out.below hA).mono hA.size)
    replace IF := Lib.hid ((IF.out.below hA).mono hA.size)
    replace P0 := P0.on hA
    replace DB := later DB hA
    clear hA
    generalize w3.heap.size = KLH at LH ⊢
    generalize w3.alloc (.cells #[.int .i64 h0, .int .i64 h1, .int .i64 h2, .int .i64 h3, .int .i64 h4, .int .i64 h5] 24) = w3x at D0 D1 D2 D3 LC LF LH HI IC IF P0 DB ⊢
    refine (rof_any n (.slice ad ts.length cap) ts w3x HI.out HLEN.out LT.out TT.out).mono ?_
    rintro e w4 ⟨hB, j0, j1, j2, j3, j4, j5, f3b, rfl, hR⟩
    obtain ⟨e1, e2⟩ := of_one HR.out hR
    obtain ⟨rfl, rfl, rfl, rfl, rfl, rfl⟩ : j0 = h0 ∧ j1 = h1 ∧ j2 = h2 ∧ j3 = h3 ∧ j4 = h4 ∧ j5 = h5 := by simpa using e1
    subst e2
    replace D0 := lies.on_call D0 hB
    replace D1 := lies.on_call D1 hB
    replace D2 := lies.on_call D2 hB
    replace D3 := lies.on_call D3 hB
    replace LC := lies.on_call LC hB
    replace LF := lies.on_call LF hB
    replace LH := lies.on_call LH hB
    replace HI := Lib.hid ((HI.out.below hB).mono hB.size)
    replace IC := Lib.hid ((IC.out.below hB).mono hB.size)
    replace IF := Lib.hid ((IF.out.below hB).mono hB.size)
    replace P0 := P0.on hB
    replace DB := later DB hB
    clear hB
    clear hR HR e1
    obtain ⟨⟨ka0, ka1, ka2, ka3, ka4, ka5⟩, _⟩ := six_cells D0
    have kal := lies.lt D0
    obtain ⟨⟨kp0, kp1, kp2, kp3⟩, _⟩ := four_cells D3
    have kpl := lies.lt D3
    go_wp2_with fail
    clear ka0 ka1 ka2 ka3 ka4 ka5 kal kp0 kp1 kp2 kp3 kpl
    have hA := bound.up1 w4 (.cells #[.int .i64 j0, .int .i64 j1, .int .i64 j2, .int .i64 j3, .int .i64 j4, .int .i64 j5] 24)
    have LJ := lies.made w4 24 #[.int .i64 j0, .int .i64 j1, .int .i64 j2, .int .i64 j3, .int .i64 j4, .int .i64 j5]
    replace D0 := lies.on_call D0 hA
    replace D1 := lies.on_call D1 hA
    replace D2 := lies.on_call D2 hA
    replace D3 := lies.on_call D3 hA
    replace LC := lies.on_call LC hA
    replace LF := lies.on_call LF hA
    replace LH := lies.on_call LH hA
    replace HI := Lib.hid ((HI.out.below hA).mono hA.size)
    replace IC := Lib.hid ((IC.out.below hA).mono hA.size)
    replace IF := Lib.hid ((IF.out.below hA).mono hA.size)
    replace P0 := P0.on hA
    replace DB := later DB hA
    clear hA
    generalize w4.heap.size = KLJ at LJ ⊢
    generalize w4.alloc (.cells #[.int .i64 j0, .int .i64 j1, .int .i64 j2, .int .i64 j3, .int .i64 j4, .int .i64 j5] 24) = w4x at D0 D1 D2 D3 LC LF LH LJ HI IC IF P0 DB ⊢
    refine (has_any a0 a1 a2 a3 a4 a5 pa pb pc pd w4x P0 TA.out HF.out).mono ?_
    rintro e w5 ⟨hB, r5, f5, rfl, hR⟩
    have HR := Lib.hid hR
    replace D0 := lies.on_call D0 hB
    replace D1 := lies.on_call D1 hB
    replace D2 := lies.on_call D2 hB
    replace D3 := lies.on_call D3 hB
    replace LC := lies.on_call LC hB
    replace LF := lies.on_call LF hB
    replace LH := lies.on_call LH hB
    replace LJ := lies.on_call LJ hB
    replace HI := Lib.hid ((HI.out.below hB).mono hB.size)
    replace IC := Lib.hid ((IC.out.below hB).mono hB.size)
    replace IF := Lib.hid ((IF.out.below hB).mono hB.size)
    replace P0 := P0.on hB
    replace DB := later DB hB
    clear hB
    clear hR
    obtain ⟨⟨ka0, ka1, ka2, ka3, ka4, ka5⟩, _⟩ := six_cells D0
    have kal := lies.lt D0
    obtain ⟨⟨kp0, kp1, kp2, kp3⟩, _⟩ := four_cells D3
    have kpl := lies.lt D3
    go_wp2_with fail
    clear ka0 ka1 ka2 ka3 ka4 ka5 kal kp0 kp1 kp2 kp3 kpl
    refine (rhas_any a0 a1 a2 a3 a4 a5 pa pb pc pd w5 LA.out TA.out HF.out).mono ?_
    rintro e w6 ⟨hB, r5b, f5b, rfl, hR⟩
    obtain ⟨rfl, rfl⟩ := has_one HR.out hR
    replace D0 := lies.on_call D0 hB
    replace D1 := lies.on_call D1 hB
    replace D2 := lies.on_call D2 hB
    replace D3 := lies.on_call D3 hB
    replace LC := lies.on_call LC hB
    replace LF := lies.on_call LF hB
    replace LH := lies.on_call LH hB
    replace LJ := lies.on_call LJ hB
    replace HI := Lib.hid ((HI.out.below hB).mono hB.size)
    replace IC := Lib.hid ((IC.out.below hB).mono hB.size)
    replace IF := Lib.hid ((IF.out.below hB).mono hB.size)
    replace P0 := P0.on hB
    replace DB := later DB hB
    clear hB
    clear hR HR
    obtain ⟨⟨ka0, ka1, ka2, ka3, ka4, ka5⟩, _⟩ := six_cells D0
    have kal := lies.lt D0
    obtain ⟨⟨kb0, kb1, kb2, kb3, kb4, kb5⟩, _⟩ := six_cells D1
    have kbl := lies.lt D1
    go_wp2_with fail
    clear ka0 ka1 ka2 ka3 ka4 ka5 kal kb0 kb1 kb2 kb3 kb4 kb5 kbl
    refine (zin_any a0 a1 a2 a3 a4 a5 b0 b1 b2 b3 b4 b5 w6 P0 TA.out TB.out).mono ?_
    rintro e w7 ⟨hB, r7, f7, rfl, hR⟩
    have HR := Lib.hid hR
    replace D0 := lies.on_call D0 hB
    replace D1 := lies.on_call D1 hB
    replace D2 := lies.on_call D2 hB
    replace D3 := lies.on_call D3 hB
    replace LC := lies.on_call LC hB
    replace LF := lies.on_call LF hB
    replace LH := lies.on_call LH hB
    replace LJ := lies.on_call LJ hB
    replace HI := Lib.hid ((HI.out.below hB).mono hB.size)
    replace IC := Lib.hid ((IC.out.below hB).mono hB.size)
    replace IF := Lib.hid ((IF.out.below hB).mono hB.size)
    replace P0 := P0.on hB
    replace DB := later DB hB
    clear hB
    clear hR
    obtain ⟨⟨ka0, ka1, ka2, ka3, ka4, ka5⟩, _⟩ := six_cells D0
    have kal := lies.lt D0
    obtain ⟨⟨kb0, kb1, kb2, kb3, kb4, kb5⟩, _⟩ := six_cells D1
    have kbl := lies.lt D1
    go_wp2_with fail
    clear ka0 ka1 ka2 ka3 ka4 ka5 kal kb0 kb1 kb2 kb3 kb4 kb5 kbl
    refine (rin_any a0 a1 a2 a3 a4 a5 b0 b1 b2 b3 b4 b5 w7 LA.out LB.out TA.out TB.out).mono ?_
    rintro e w8 ⟨hB, r7b, f7b, rfl, hR⟩
    obtain ⟨rfl, rfl⟩ := in_one HR.out hR
    replace D0 := lies.on_call D0 hB
    replace D1 := lies.on_call D1 hB
    replace D2 := lies.on_call D2 hB
    replace D3 := lies.on_call D3 hB
    replace LC := lies.on_call LC hB
    replace LF := lies.on_call LF hB
    replace LH := lies.on_call LH hB
    replace LJ := lies.on_call LJ hB
    replace HI := Lib.hid ((HI.out.below hB).mono hB.size)
    replace IC := Lib.hid ((IC.out.below hB).mono hB.size)
    replace IF := Lib.hid ((IF.out.below hB).mono hB.size)
    replace P0 := P0.on hB
    replace DB := later DB hB
    clear hB
    clear hR HR
    obtain ⟨⟨ka0, ka1, ka2, ka3, ka4, ka5⟩, _⟩ := six_cells D0
    have kal := lies.lt D0
    obtain ⟨⟨kb0, kb1, kb2, kb3, kb4, kb5⟩, _⟩ := six_cells D1
    have kbl := lies.lt D1
    go_wp2_with fail
    clear ka0 ka1 ka2 ka3 ka4 ka5 kal kb0 kb1 kb2 kb3 kb4 kb5 kbl
    refine (zmeet_any a0 a1 a2 a3 a4 a5 b0 b1 b2 b3 b4 b5 w8 P0 TA.out TB.out).mono ?_
    rintro e w9 ⟨hB, u0, u1, u2, u3, u4, u5, f9, rfl, hR⟩
    have HR := Lib.hid hR
    replace D0 := lies.on_call D0 hB
    replace D1 := lies.on_call D1 hB
    replace D2 := lies.on_call D2 hB
    replace D3 := lies.on_call D3 hB
    replace LC := lies.on_call LC hB
    replace LF := lies.on_call LF hB
    replace LH := lies.on_call LH hB
    replace LJ := lies.on_call LJ hB
    replace HI := Lib.hid ((HI.out.below hB).mono hB.size)
    replace IC := Lib.hid ((IC.out.below hB).mono hB.size)
    replace IF := Lib.hid ((IF.out.below hB).mono hB.size)
    replace P0 := P0.on hB
    replace DB := later DB hB
    clear hB
    clear hR
    obtain ⟨⟨ka0, ka1, ka2, ka3, ka4, ka5⟩, _⟩ := six_cells D0
    have kal := lies.lt D0
    obtain ⟨⟨kb0, kb1, kb2, kb3, kb4, kb5⟩, _⟩ := six_cells D1
    have kbl := lies.lt D1
    go_wp2_with fail
    clear ka0 ka1 ka2 ka3 ka4 ka5 kal kb0 kb1 kb2 kb3 kb4 kb5 kbl
    have hA := bound.up1 w9 (.cells #[.int .i64 u0, .int .i64 u1, .int .i64 u2, .int .i64 u3, .int .i64 u4, .int .i64 u5] 24)
    have LU := lies.made w9 24 #[.int .i64 u0, .int .i64 u1, .int .i64 u2, .int .i64 u3, .int .i64 u4, .int .i64 u5]
    replace D0 := lies.on_call D0 hA
    replace D1 := lies.on_call D1 hA
    replace D2 := lies.on_call D2 hA
    replace D3 := lies.on_call D3 hA
    replace LC := lies.on_call LC hA
    replace LF := lies.on_call LF hA
    replace LH := lies.on_call LH hA
    replace LJ := lies.on_call LJ hA
    replace HI := Lib.hid ((HI.out.below hA).mono hA.size)
    replace IC := Lib.hid ((IC.out.below hA).mono hA.size)
    replace IF := Lib.hid ((IF.out.below hA).mono hA.size)
    replace P0 := P0.on hA
    replace DB := later DB hA
    clear hA
    generalize w9.heap.size = KLU at LU ⊢
    generalize w9.alloc (.cells #[.int .i64 u0, .int .i64 u1, .int .i64 u2, .int .i64 u3, .int .i64 u4, .int .i64 u5] 24) = w9x at D0 D1 D2 D3 LC LF LH LJ LU HI IC IF P0 DB ⊢
    refine (rmeet_any a0 a1 a2 a3 a4 a5 b0 b1 b2 b3 b4 b5 w9x LA.out LB.out TA.out TB.out).mono ?_
    rintro e w10 ⟨hB, v0, v1, v2, v3, v4, v5, f9b, rfl, hR⟩
    obtain ⟨e1, e2⟩ := meet_one HR.out hR
    obtain ⟨rfl, rfl, rfl, rfl, rfl, rfl⟩ : v0 = u0 ∧ v1 = u1 ∧ v2 = u2 ∧ v3 = u3 ∧ v4 = u4 ∧ v5 = u5 := by simpa using e1
    subst e2
    replace D0 := lies.on_call D0 hB
    replace D1 := lies.on_call D1 hB
    replace D2 := lies.on_call D2 hB
    replace D3 := lies.on_call D3 hB
    replace LC := lies.on_call LC hB
    replace LF := lies.on_call LF hB
    replace LH := lies.on_call LH hB
    replace LJ := lies.on_call LJ hB
    replace LU := lies.on_call LU hB
    replace HI := Lib.hid ((HI.out.below hB).mono hB.size)
    replace IC := Lib.hid ((IC.out.below hB).mono hB.size)
    replace IF := Lib.hid ((IF.out.below hB).mono hB.size)
    replace P0 := P0.on hB
    replace DB := later DB hB
    clear hB
    clear hR HR e1
    obtain ⟨⟨ka0, ka1, ka2, ka3, ka4, ka5⟩, _⟩ := six_cells D0
    have kal := lies.lt D0
    go_wp2_with fail
    clear ka0 ka1 ka2 ka3 ka4 ka5 kal
    have hA := bound.up1 w10 (.cells #[.int .i64 v0, .int .i64 v1, .int .i64 v2, .int .i64 v3, .int .i64 v4, .int .i64 v5] 24)
    have LV := lies.made w10 24 #[.int .i64 v0, .int .i64 v1, .int .i64 v2, .int .i64 v3, .int .i64 v4, .int .i64 v5]
    replace D0 := lies.on_call D0 hA
    replace D1 := lies.on_call D1 hA
    replace D2 := lies.on_call D2 hA
    replace D3 := lies.on_call D3 hA
    replace LC := lies.on_call LC hA
    replace LF := lies.on_call LF hA
    replace LH := lies.on_call LH hA
    replace LJ := lies.on_call LJ hA
    replace LU := lies.on_call LU hA
    replace HI := Lib.hid ((HI.out.below hA).mono hA.size)
    replace IC := Lib.hid ((IC.out.below hA).mono hA.size)
    replace IF := Lib.hid ((IF.out.below hA).mono hA.size)
    replace P0 := P0.on hA
    replace DB := later DB hA
    clear hA
    generalize w10.heap.size = KLV at LV ⊢
    generalize w10.alloc (.cells #[.int .i64 v0, .int .i64 v1, .int .i64 v2, .int .i64 v3, .int .i64 v4, .int .i64 v5] 24) = w10x at D0 D1 D2 D3 LC LF LH LJ LU LV HI IC IF P0 DB ⊢
    refine (zpick_any a0 a1 a2 a3 a4 a5 w10x P0 TA.out).mono ?_
    rintro e w11 ⟨hB, y0, y1, y2, y3, f11, rfl, hR⟩
    have HR := Lib.hid hR
    replace D0 := lies.on_call D0 hB
    replace D1 := lies.on_call D1 hB
    replace D2 := lies.on_call D2 hB
    replace D3 := lies.on_call D3 hB
    replace LC := lies.on_call LC hB
    replace LF := lies.on_call LF hB
    replace LH := lies.on_call LH hB
    replace LJ := lies.on_call LJ hB
    replace LU := lies.on_call LU hB
    replace LV := lies.on_call LV hB
    replace HI := Lib.hid ((HI.out.below hB).mono hB.size)
    replace IC := Lib.hid ((IC.out.below hB).mono hB.size)
    replace IF := Lib.hid ((IF.out.below hB).mono hB.size)
    replace P0 := P0.on hB
    replace DB := later DB hB
    clear hB
    clear hR
    obtain ⟨⟨ka0, ka1, ka2, ka3, ka4, ka5⟩, _⟩ := six_cells D0
    have kal := lies.lt D0
    go_wp2_with fail
    clear ka0 ka1 ka2 ka3 ka4 ka5 kal
    have hA := bound.up1 w11 (.cells #[.int .i64 y0, .int .i64 y1, .int .i64 y2, .int .i64 y3] 31)
    have LY := lies.made w11 31 #[.int .i64 y0, .int .i64 y1, .int .i64 y2, .int .i64 y3]
    replace D0 := lies.on_call D0 hA
    replace D1 := lies.on_call D1 hA
    replace D2 := lies.on_call D2 hA
    replace D3 := lies.on_call D3 hA
    replace LC := lies.on_call LC hA
    replace LF := lies.on_call LF hA
    replace LH := lies.on_call LH hA
    replace LJ := lies.on_call LJ hA
    replace LU := lies.on_call LU hA
    replace LV := lies.on_call LV hA
    replace HI := Lib.hid ((HI.out.below hA).mono hA.size)
    replace IC := Lib.hid ((IC.out.below hA).mono hA.size)
    replace IF := Lib.hid ((IF.out.below hA).mono hA.size)
    replace P0 := P0.on hA
    replace DB := later DB hA
    clear hA
    generalize w11.heap.size = KLY at LY ⊢
    generalize w11.alloc (.cells #[.int .i64 y0, .int .i64 y1, .int .i64 y2, .int .i64 y3] 31) = w11x at D0 D1 D2 D3 LC LF LH LJ LU LV LY HI IC IF P0 DB ⊢
    refine (rpick_any a0 a1 a2 a3 a4 a5 w11x LA.out TA.out).mono ?_
    rintro e w12 ⟨hB, x0, x1, x2, x3, f12, rfl, hR⟩
    obtain ⟨rfl, rfl, rfl, rfl, rfl⟩ := pick_one HR.out hR
    replace D0 := lies.on_call D0 hB
    replace D1 := lies.on_call D1 hB
    replace D2 := lies.on_call D2 hB
    replace D3 := lies.on_call D3 hB
    replace LC := lies.on_call LC hB
    replace LF := lies.on_call LF hB
    replace LH := lies.on_call LH hB
    replace LJ := lies.on_call LJ hB
    replace LU := lies.on_call LU hB
    replace LV := lies.on_call LV hB
    replace LY := lies.on_call LY hB
    replace HI := Lib.hid ((HI.out.below hB).mono hB.size)
    replace IC := Lib.hid ((IC.out.below hB).mono hB.size)
    replace IF := Lib.hid ((IF.out.below hB).mono hB.size)
    replace P0 := P0.on hB
    replace DB := later DB hB
    clear hB
    clear hR HR
    obtain ⟨kc0, kc1, kc2, kc3, kcl⟩ := lies.two LC
    obtain ⟨kf0, kf1, kf2, kf3, kfl⟩ := lies.two LF
    go_wp2_with fail
    clear kc0 kc1 kc2 kc3 kcl kf0 kf1 kf2 kf3 kfl
    have hA := bound.up1 w12 (.cells #[.int .i64 x0, .int .i64 x1, .int .i64 x2, .int .i64 x3] 31)
    have LX := lies.made w12 31 #[.int .i64 x0, .int .i64 x1, .int .i64 x2, .int .i64 x3]
    replace D0 := lies.on_call D0 hA
    replace D1 := lies.on_call D1 hA
    replace D2 := lies.on_call D2 hA
    replace D3 := lies.on_call D3 hA
    replace LC := lies.on_call LC hA
    replace LF := lies.on_call LF hA
    replace LH := lies.on_call LH hA
    replace LJ := lies.on_call LJ hA
    replace LU := lies.on_call LU hA
    replace LV := lies.on_call LV hA
    replace LY := lies.on_call LY hA
    replace HI := Lib.hid ((HI.out.below hA).mono hA.size)
    replace IC := Lib.hid ((IC.out.below hA).mono hA.size)
    replace IF := Lib.hid ((IF.out.below hA).mono hA.size)
    replace P0 := P0.on hA
    replace DB := later DB hA
    clear hA
    generalize w12.heap.size = KLX at LX ⊢
    generalize w12.alloc (.cells #[.int .i64 x0, .int .i64 x1, .int .i64 x2, .int .i64 x3] 31) = w12x at D0 D1 D2 D3 LC LF LH LJ LU LV LY LX HI IC IF P0 DB ⊢
    refine (dref.same_true nb (.slice aa la ca) (.slice ab lb cb) vs vs w12x IC.out IF.out HLU.out rfl).mono ?_
    rintro e w13 ⟨rfl, hB⟩
    replace D0 := lies.on_call D0 hB
    replace D1 := lies.on_call D1 hB
    replace D2 := lies.on_call D2 hB
    replace D3 := lies.on_call D3 hB
    replace LC := lies.on_call LC hB
    replace LF := lies.on_call LF hB
    replace LH := lies.on_call LH hB
    replace LJ := lies.on_call LJ hB
    replace LU := lies.on_call LU hB
    replace LV := lies.on_call LV hB
    replace LY := lies.on_call LY hB
    replace LX := lies.on_call LX hB
    replace HI := Lib.hid ((HI.out.below hB).mono hB.size)
    replace IC := Lib.hid ((IC.out.below hB).mono hB.size)
    replace IF := Lib.hid ((IF.out.below hB).mono hB.size)
    replace P0 := P0.on hB
    replace DB := later DB hB
    clear hB
    clear IC IF HI LC LF D2 D3
    have qj : ∀ W, (Op.equalIn 10000 24 (.agg #[.int .i64 j0, .int .i64 j1, .int .i64 j2, .int .i64 j3, .int .i64 j4, .int .i64 j5]) (.agg #[.int .i64 j0, .int .i64 j1, .int .i64 j2, .int .i64 j3, .int .i64 j4, .int .i64 j5])).run Tryz.prog W = .ok true W := fun W => by rw [eq_zone]; exact congrArg (fun b => Result.ok b W) (decide_eq_true rfl)
    have qv : ∀ W, (Op.equalIn 10000 24 (.agg #[.int .i64 v0, .int .i64 v1, .int .i64 v2, .int .i64 v3, .int .i64 v4, .int .i64 v5]) (.agg #[.int .i64 v0, .int .i64 v1, .int .i64 v2, .int .i64 v3, .int .i64 v4, .int .i64 v5])).run Tryz.prog W = .ok true W := fun W => by rw [eq_zone]; exact congrArg (fun b => Result.ok b W) (decide_eq_true rfl)
    obtain ⟨⟨kh0, kh1, kh2, kh3, kh4, kh5⟩, _⟩ := six_cells LH
    have khl := lies.lt LH
    obtain ⟨⟨kj0, kj1, kj2, kj3, kj4, kj5⟩, _⟩ := six_cells LJ
    have kjl := lies.lt LJ
    go_wp2_with fail
    clear kh0 kh1 kh2 kh3 kh4 kh5 khl kj0 kj1 kj2 kj3 kj4 kj5 kjl LH LJ qj
    obtain ⟨⟨ku0, ku1, ku2, ku3, ku4, ku5⟩, _⟩ := six_cells LU
    have kul := lies.lt LU
    obtain ⟨⟨kv0, kv1, kv2, kv3, kv4, kv5⟩, _⟩ := six_cells LV
    have kvl := lies.lt LV
    obtain ⟨⟨ky0, ky1, ky2, ky3⟩, _⟩ := four_cells LY
    have kyl := lies.lt LY
    obtain ⟨⟨kx0, kx1, kx2, kx3⟩, _⟩ := four_cells LX
    have kxl := lies.lt LX
    obtain ⟨⟨ka0, ka1, ka2, ka3, ka4, ka5⟩, _⟩ := six_cells D0
    have kal := lies.lt D0
    obtain ⟨⟨kb0, kb1, kb2, kb3, kb4, kb5⟩, _⟩ := six_cells D1
    have kbl := lies.lt D1
    refine wp_region_held_drew (S := Below w13.heap.size w13) (by kernel_rfl) (dbm.drawn1 (Below.refl _ _)) (fun hHeld => ?_)
    generalize w13.drew = wD at hHeld ⊢
    refine wpAnyH_take (i := 0) (v := ?_) rfl (by kernel_rfl) (by kernel_rfl) (by kernel_rfl) (fun _ _ _ h => h) (Or.inl ⟨by rfl, ?_⟩) hHeld ?_
    rotate_left
    · intro w hSw; skip; go_simp; try with_reducible rfl
    try simp only [Act.put, List.getElem_toArray, List.getElem_cons_zero, List.getElem_cons_succ, List.setIfInBounds_toArray, List.set_cons_zero, List.set_cons_succ]
    refine wpAnyH_take (i := 1) (v := ?_) rfl (by kernel_rfl) (by kernel_rfl) (by kernel_rfl) (fun _ _ _ h => h) (Or.inl ⟨by rfl, ?_⟩) hHeld ?_
    rotate_left
    · intro w hSw; skip; go_simp; try with_reducible rfl
    try simp only [Act.put, List.getElem_toArray, List.getElem_cons_zero, List.getElem_cons_succ, List.setIfInBounds_toArray, List.set_cons_zero, List.set_cons_succ]
    refine wpAnyH_take (i := 2) (v := ?_) rfl (by kernel_rfl) (by kernel_rfl) (by kernel_rfl) (fun _ _ _ h => h) (Or.inl ⟨by rfl, ?_⟩) hHeld ?_
    rotate_left
    · intro w hSw; have s0 := (hSw.cell (p := ⟨KLU, 0, none⟩) kul).trans ku0; have s1 := (hSw.cell (p := ⟨KLU, 1, none⟩) kul).trans ku1; have s2 := (hSw.cell (p := ⟨KLU, 2, none⟩) kul).trans ku2; have s3 := (hSw.cell (p := ⟨KLU, 3, none⟩) kul).trans ku3; have s4 := (hSw.cell (p := ⟨KLU, 4, none⟩) kul).trans ku4; have s5 := (hSw.cell (p := ⟨KLU, 5, none⟩) kul).trans ku5; go_simp; try with_reducible rfl
    try simp only [Act.put, List.getElem_toArray, List.getElem_cons_zero, List.getElem_cons_succ, List.setIfInBounds_toArray, List.set_cons_zero, List.set_cons_succ]
    refine wpAnyH_take (i := 3) (v := ?_) rfl (by kernel_rfl) (by kernel_rfl) (by kernel_rfl) (fun _ _ _ h => h) (Or.inl ⟨by rfl, ?_⟩) hHeld ?_
    rotate_left
    · intro w hSw; have s0 := (hSw.cell (p := ⟨KLV, 0, none⟩) kvl).trans kv0; have s1 := (hSw.cell (p := ⟨KLV, 1, none⟩) kvl).trans kv1; have s2 := (hSw.cell (p := ⟨KLV, 2, none⟩) kvl).trans kv2; have s3 := (hSw.cell (p := ⟨KLV, 3, none⟩) kvl).trans kv3; have s4 := (hSw.cell (p := ⟨KLV, 4, none⟩) kvl).trans kv4; have s5 := (hSw.cell (p := ⟨KLV, 5, none⟩) kvl).trans kv5; go_simp; try with_reducible rfl
    try simp only [Act.put, List.getElem_toArray, List.getElem_cons_zero, List.getElem_cons_succ, List.setIfInBounds_toArray, List.set_cons_zero, List.set_cons_succ]
    refine wpAnyH_take (i := 4) (v := ?_) rfl (by kernel_rfl) (by kernel_rfl) (by kernel_rfl) (fun _ _ _ h => h) (Or.inl ⟨by rfl, ?_⟩) hHeld ?_
    rotate_left
    · intro w hSw; skip; go_simp; try with_reducible rfl
    try simp only [Act.put, List.getElem_toArray, List.getElem_cons_zero, List.getElem_cons_succ, List.setIfInBounds_toArray, List.set_cons_zero, List.set_cons_succ]
    refine wpAnyH_take (i := 5) (v := ?_) rfl (by kernel_rfl) (by kernel_rfl) (by kernel_rfl) (fun _ _ _ h => h) (Or.inl ⟨by rfl, ?_⟩) hHeld ?_
    rotate_left
    · intro w hSw; skip; go_simp; try with_reducible rfl
    try simp only [Act.put, List.getElem_toArray, List.getElem_cons_zero, List.getElem_cons_succ, List.setIfInBounds_toArray, List.set_cons_zero, List.set_cons_succ]
    refine wpAnyH_take (i := 6) (v := ?_) rfl (by kernel_rfl) (by kernel_rfl) (by kernel_rfl) (fun _ _ _ h => h) (Or.inl ⟨by rfl, ?_⟩) hHeld ?_
    rotate_left
    · intro w hSw; skip; go_simp; try with_reducible rfl
    try simp only [Act.put, List.getElem_toArray, List.getElem_cons_zero, List.getElem_cons_succ, List.setIfInBounds_toArray, List.set_cons_zero, List.set_cons_succ]
    refine wpAnyH_take (i := 7) (v := ?_) rfl (by kernel_rfl) (by kernel_rfl) (by kernel_rfl) (fun _ _ _ h => h) (Or.inl ⟨by rfl, ?_⟩) hHeld ?_
    rotate_left
    · intro w hSw; skip; go_simp; try with_reducible rfl
    try simp only [Act.put, List.getElem_toArray, List.getElem_cons_zero, List.getElem_cons_succ, List.setIfInBounds_toArray, List.set_cons_zero, List.set_cons_succ]
    refine wpAnyH_take (i := 8) (v := ?_) rfl (by kernel_rfl) (by kernel_rfl) (by kernel_rfl) (fun _ _ _ h => h) (Or.inl ⟨by rfl, ?_⟩) hHeld ?_
    rotate_left
    · intro w hSw; skip; go_simp; try with_reducible rfl
    try simp only [Act.put, List.getElem_toArray, List.getElem_cons_zero, List.getElem_cons_succ, List.setIfInBounds_toArray, List.set_cons_zero, List.set_cons_succ]
    refine wpAnyH_take (i := 9) (v := ?_) rfl (by kernel_rfl) (by kernel_rfl) (by kernel_rfl) (fun _ _ _ h => h) (Or.inl ⟨by rfl, ?_⟩) hHeld ?_
    rotate_left
    · intro w hSw; skip; go_simp; try with_reducible rfl
    try simp only [Act.put, List.getElem_toArray, List.getElem_cons_zero, List.getElem_cons_succ, List.setIfInBounds_toArray, List.set_cons_zero, List.set_cons_succ]
    refine wpAnyH_take (i := 10) (v := ?_) rfl (by kernel_rfl) (by kernel_rfl) (by kernel_rfl) (fun _ _ _ h => h) (Or.inl ⟨by rfl, ?_⟩) hHeld ?_
    rotate_left
    · intro w hSw; skip; go_simp; try with_reducible rfl
    try simp only [Act.put, List.getElem_toArray, List.getElem_cons_zero, List.getElem_cons_succ, List.setIfInBounds_toArray, List.set_cons_zero, List.set_cons_succ]
    refine wpAnyH_take (i := 11) (v := ?_) rfl (by kernel_rfl) (by kernel_rfl) (by kernel_rfl) (fun _ _ _ h => h) (Or.inl ⟨by rfl, ?_⟩) hHeld ?_
    rotate_left
    · intro w hSw; skip; go_simp; try with_reducible rfl
    try simp only [Act.put, List.getElem_toArray, List.getElem_cons_zero, List.getElem_cons_succ, List.setIfInBounds_toArray, List.set_cons_zero, List.set_cons_succ]
    refine wpAnyH_take (i := 12) (v := ?_) rfl (by kernel_rfl) (by kernel_rfl) (by kernel_rfl) (fun _ _ _ h => h) (Or.inl ⟨by rfl, ?_⟩) hHeld ?_
    rotate_left
    · intro w hSw; have s0 := (hSw.cell (p := ⟨KLY, 0, none⟩) kyl).trans ky0; have s1 := (hSw.cell (p := ⟨KLY, 1, none⟩) kyl).trans ky1; have s2 := (hSw.cell (p := ⟨KLY, 2, none⟩) kyl).trans ky2; have s3 := (hSw.cell (p := ⟨KLY, 3, none⟩) kyl).trans ky3; go_simp; try with_reducible rfl
    try simp only [Act.put, List.getElem_toArray, List.getElem_cons_zero, List.getElem_cons_succ, List.setIfInBounds_toArray, List.set_cons_zero, List.set_cons_succ]
    refine wpAnyH_take (i := 13) (v := ?_) rfl (by kernel_rfl) (by kernel_rfl) (by kernel_rfl) (fun _ _ _ h => h) (Or.inl ⟨by rfl, ?_⟩) hHeld ?_
    rotate_left
    · intro w hSw; have s0 := (hSw.cell (p := ⟨KLX, 0, none⟩) kxl).trans kx0; have s1 := (hSw.cell (p := ⟨KLX, 1, none⟩) kxl).trans kx1; have s2 := (hSw.cell (p := ⟨KLX, 2, none⟩) kxl).trans kx2; have s3 := (hSw.cell (p := ⟨KLX, 3, none⟩) kxl).trans kx3; go_simp; try with_reducible rfl
    try simp only [Act.put, List.getElem_toArray, List.getElem_cons_zero, List.getElem_cons_succ, List.setIfInBounds_toArray, List.set_cons_zero, List.set_cons_succ]
    refine wpAnyH_take (i := 14) (v := ?_) rfl (by kernel_rfl) (by kernel_rfl) (by kernel_rfl) (fun _ _ _ h => h) (Or.inl ⟨by rfl, ?_⟩) hHeld ?_
    rotate_left
    · intro w hSw; skip; go_simp; try with_reducible rfl
    try simp only [Act.put, List.getElem_toArray, List.getElem_cons_zero, List.getElem_cons_succ, List.setIfInBounds_toArray, List.set_cons_zero, List.set_cons_succ]
    refine wpAnyH_take (i := 15) (v := ?_) rfl (by kernel_rfl) (by kernel_rfl) (by kernel_rfl) (fun _ _ _ h => h) (Or.inl ⟨by rfl, ?_⟩) hHeld ?_
    rotate_left
    · intro w hSw; skip; go_simp; try with_reducible rfl
    try simp only [Act.put, List.getElem_toArray, List.getElem_cons_zero, List.getElem_cons_succ, List.setIfInBounds_toArray, List.set_cons_zero, List.set_cons_succ]
    refine wpAnyH_take (i := 16) (v := ?_) rfl (by kernel_rfl) (by kernel_rfl) (by kernel_rfl) (fun _ _ _ h => h) (Or.inl ⟨by rfl, ?_⟩) hHeld ?_
    rotate_left
    · intro w hSw; skip; go_simp; try with_reducible rfl
    try simp only [Act.put, List.getElem_toArray, List.getElem_cons_zero, List.getElem_cons_succ, List.setIfInBounds_toArray, List.set_cons_zero, List.set_cons_succ]
    refine wpAnyH_take (i := 17) (v := ?_) rfl (by kernel_rfl) (by kernel_rfl) (by kernel_rfl) (fun _ _ _ h => h) (Or.inl ⟨by rfl, ?_⟩) hHeld ?_
    rotate_left
    · intro w hSw; skip; go_simp; try with_reducible rfl
    try simp only [Act.put, List.getElem_toArray, List.getElem_cons_zero, List.getElem_cons_succ, List.setIfInBounds_toArray, List.set_cons_zero, List.set_cons_succ]
    refine wpAnyH_take (i := 18) (v := ?_) rfl (by kernel_rfl) (by kernel_rfl) (by kernel_rfl) (fun _ _ _ h => h) (Or.inl ⟨by rfl, ?_⟩) hHeld ?_
    rotate_left
    · intro w hSw; skip; go_simp; try with_reducible rfl
    try simp only [Act.put, List.getElem_toArray, List.getElem_cons_zero, List.getElem_cons_succ, List.setIfInBounds_toArray, List.set_cons_zero, List.set_cons_succ]
    refine wpAnyH_take (i := 19) (v := ?_) rfl (by kernel_rfl) (by kernel_rfl) (by kernel_rfl) (fun _ _ _ h => h) (Or.inl ⟨by rfl, ?_⟩) hHeld ?_
    rotate_left
    · intro w hSw; skip; go_simp; try with_reducible rfl
    try simp only [Act.put, List.getElem_toArray, List.getElem_cons_zero, List.getElem_cons_succ, List.setIfInBounds_toArray, List.set_cons_zero, List.set_cons_succ]
    refine wpAnyH_take (i := 20) (v := ?_) rfl (by kernel_rfl) (by kernel_rfl) (by kernel_rfl) (fun _ _ _ h => h) (Or.inl ⟨by rfl, ?_⟩) hHeld ?_
    rotate_left
    · intro w hSw; skip; go_simp; try with_reducible rfl
    try simp only [Act.put, List.getElem_toArray, List.getElem_cons_zero, List.getElem_cons_succ, List.setIfInBounds_toArray, List.set_cons_zero, List.set_cons_succ]
    refine wpAnyH_take (i := 21) (v := ?_) rfl (by kernel_rfl) (by kernel_rfl) (by kernel_rfl) (fun _ _ _ h => h) (Or.inl ⟨by rfl, ?_⟩) hHeld ?_
    rotate_left
    · intro w hSw; skip; go_simp; try with_reducible rfl
    try simp only [Act.put, List.getElem_toArray, List.getElem_cons_zero, List.getElem_cons_succ, List.setIfInBounds_toArray, List.set_cons_zero, List.set_cons_succ]
    refine wpAnyH_take (i := 22) (v := ?_) rfl (by kernel_rfl) (by kernel_rfl) (by kernel_rfl) (fun _ _ _ h => h) (Or.inl ⟨by rfl, ?_⟩) hHeld ?_
    rotate_left
    · intro w hSw; have s0 := (hSw.cell (p := ⟨A0, 0, none⟩) kal).trans ka0; have s1 := (hSw.cell (p := ⟨A0, 1, none⟩) kal).trans ka1; have s2 := (hSw.cell (p := ⟨A0, 2, none⟩) kal).trans ka2; have s3 := (hSw.cell (p := ⟨A0, 3, none⟩) kal).trans ka3; have s4 := (hSw.cell (p := ⟨A0, 4, none⟩) kal).trans ka4; have s5 := (hSw.cell (p := ⟨A0, 5, none⟩) kal).trans ka5; go_simp; try with_reducible rfl
    try simp only [Act.put, List.getElem_toArray, List.getElem_cons_zero, List.getElem_cons_succ, List.setIfInBounds_toArray, List.set_cons_zero, List.set_cons_succ]
    refine wpAnyH_take (i := 24) (v := ?_) rfl (by kernel_rfl) (by kernel_rfl) (by kernel_rfl) (fun _ _ _ h => h) (Or.inl ⟨by rfl, ?_⟩) hHeld ?_
    rotate_left
    · intro w hSw; have s0 := (hSw.cell (p := ⟨A0, 0, none⟩) kal).trans ka0; have s1 := (hSw.cell (p := ⟨A0, 1, none⟩) kal).trans ka1; have s2 := (hSw.cell (p := ⟨A0, 2, none⟩) kal).trans ka2; have s3 := (hSw.cell (p := ⟨A0, 3, none⟩) kal).trans ka3; have s4 := (hSw.cell (p := ⟨A0, 4, none⟩) kal).trans ka4; have s5 := (hSw.cell (p := ⟨A0, 5, none⟩) kal).trans ka5; go_simp; try with_reducible rfl
    try simp only [Act.put, List.getElem_toArray, List.getElem_cons_zero, List.getElem_cons_succ, List.setIfInBounds_toArray, List.set_cons_zero, List.set_cons_succ]
    clear ku0 ku1 ku2 ku3 ku4 ku5 kul kv0 kv1 kv2 kv3 kv4 kv5 kvl ky0 ky1 ky2 ky3 kyl kx0 kx1 kx2 kx3 kxl LU LV LY LX qv
    refine wpAnyH_ready (rs := [23]) (by kernel_rfl) (by simp) (AllReadyH.cons rfl (fun K hK => ?_) AllReadyH.nil)
    go_simp
    refine (check_any a0 a1 a2 a3 a4 a5 wD (P0.on hHeld) TA.out).mono ?_
    rintro e w14 ⟨hB, g1, rfl, hR⟩
    have HR := Lib.hid hR
    clear hR
    refine hK.out _ _ (hHeld.trans (hB.mono hHeld.size)) (fun hNew => ?_)
    clear hB
    clear hHeld hK K
    have hHeld := hNew
    clear hNew
    try simp only [Act.put, List.getElem_toArray, List.getElem_cons_zero, List.getElem_cons_succ, List.setIfInBounds_toArray, List.set_cons_zero, List.set_cons_succ]
    refine wpAnyH_ready (rs := [25]) (by kernel_rfl) (by simp) (AllReadyH.cons rfl (fun K hK => ?_) AllReadyH.nil)
    go_simp
    refine (rcheck_any a0 a1 a2 a3 a4 a5 w14 LA.out TA.out).mono ?_
    rintro e w15 ⟨hB, g2, rfl, hR⟩
    obtain rfl := chk_one HR.out hR
    clear hR HR
    refine hK.out _ _ (hHeld.trans (hB.mono hHeld.size)) (fun hNew => ?_)
    clear hB
    clear hHeld hK K
    have hHeld := hNew
    clear hNew
    try simp only [Act.put, List.getElem_toArray, List.getElem_cons_zero, List.getElem_cons_succ, List.setIfInBounds_toArray, List.set_cons_zero, List.set_cons_succ]
    refine wpAnyH_take (i := 26) (v := ?_) rfl (by kernel_rfl) (by kernel_rfl) (by kernel_rfl) (fun _ _ _ h => h) (Or.inl ⟨by rfl, ?_⟩) hHeld ?_
    rotate_left
    · intro w hSw; skip; go_simp; try with_reducible rfl
    try simp only [Act.put, List.getElem_toArray, List.getElem_cons_zero, List.getElem_cons_succ, List.setIfInBounds_toArray, List.set_cons_zero, List.set_cons_succ]
    refine wpAnyH_take (i := 27) (v := ?_) rfl (by kernel_rfl) (by kernel_rfl) (by kernel_rfl) (fun _ _ _ h => h) (Or.inl ⟨by rfl, ?_⟩) hHeld ?_
    rotate_left
    · intro w hSw; skip; go_simp; try with_reducible rfl
    try simp only [Act.put, List.getElem_toArray, List.getElem_cons_zero, List.getElem_cons_succ, List.setIfInBounds_toArray, List.set_cons_zero, List.set_cons_succ]
    refine wpAnyH_take (i := 28) (v := ?_) rfl (by kernel_rfl) (by kernel_rfl) (by kernel_rfl) (fun _ _ _ h => h) (Or.inl ⟨by rfl, ?_⟩) hHeld ?_
    rotate_left
    · intro w hSw; skip; go_simp; try with_reducible rfl
    try simp only [Act.put, List.getElem_toArray, List.getElem_cons_zero, List.getElem_cons_succ, List.setIfInBounds_toArray, List.set_cons_zero, List.set_cons_succ]
    refine wpAnyH_take (i := 29) (v := ?_) rfl (by kernel_rfl) (by kernel_rfl) (by kernel_rfl) (fun _ _ _ h => h) (Or.inl ⟨by rfl, ?_⟩) hHeld ?_
    rotate_left
    · intro w hSw; have s0 := (hSw.cell (p := ⟨A0, 0, none⟩) kal).trans ka0; have s1 := (hSw.cell (p := ⟨A0, 1, none⟩) kal).trans ka1; have s2 := (hSw.cell (p := ⟨A0, 2, none⟩) kal).trans ka2; have s3 := (hSw.cell (p := ⟨A0, 3, none⟩) kal).trans ka3; have s4 := (hSw.cell (p := ⟨A0, 4, none⟩) kal).trans ka4; have s5 := (hSw.cell (p := ⟨A0, 5, none⟩) kal).trans ka5; go_simp; try with_reducible rfl
    try simp only [Act.put, List.getElem_toArray, List.getElem_cons_zero, List.getElem_cons_succ, List.setIfInBounds_toArray, List.set_cons_zero, List.set_cons_succ]
    refine wpAnyH_take (i := 30) (v := ?_) rfl (by kernel_rfl) (by kernel_rfl) (by kernel_rfl) (fun _ _ _ h => h) (Or.inl ⟨by rfl, ?_⟩) hHeld ?_
    rotate_left
    · intro w hSw; have s0 := (hSw.cell (p := ⟨A1, 0, none⟩) kbl).trans kb0; have s1 := (hSw.cell (p := ⟨A1, 1, none⟩) kbl).trans kb1; have s2 := (hSw.cell (p := ⟨A1, 2, none⟩) kbl).trans kb2; have s3 := (hSw.cell (p := ⟨A1, 3, none⟩) kbl).trans kb3; have s4 := (hSw.cell (p := ⟨A1, 4, none⟩) kbl).trans kb4; have s5 := (hSw.cell (p := ⟨A1, 5, none⟩) kbl).trans kb5; go_simp; try with_reducible rfl
    try simp only [Act.put, List.getElem_toArray, List.getElem_cons_zero, List.getElem_cons_succ, List.setIfInBounds_toArray, List.set_cons_zero, List.set_cons_succ]
    refine wpAnyH_take (i := 32) (v := ?_) rfl (by kernel_rfl) (by kernel_rfl) (by kernel_rfl) (fun _ _ _ h => h) (Or.inl ⟨by rfl, ?_⟩) hHeld ?_
    rotate_left
    · intro w hSw; have s0 := (hSw.cell (p := ⟨A0, 0, none⟩) kal).trans ka0; have s1 := (hSw.cell (p := ⟨A0, 1, none⟩) kal).trans ka1; have s2 := (hSw.cell (p := ⟨A0, 2, none⟩) kal).trans ka2; have s3 := (hSw.cell (p := ⟨A0, 3, none⟩) kal).trans ka3; have s4 := (hSw.cell (p := ⟨A0, 4, none⟩) kal).trans ka4; have s5 := (hSw.cell (p := ⟨A0, 5, none⟩) kal).trans ka5; go_simp; try with_reducible rfl
    try simp only [Act.put, List.getElem_toArray, List.getElem_cons_zero, List.getElem_cons_succ, List.setIfInBounds_toArray, List.set_cons_zero, List.set_cons_succ]
    refine wpAnyH_take (i := 33) (v := ?_) rfl (by kernel_rfl) (by kernel_rfl) (by kernel_rfl) (fun _ _ _ h => h) (Or.inl ⟨by rfl, ?_⟩) hHeld ?_
    rotate_left
    · intro w hSw; have s0 := (hSw.cell (p := ⟨A1, 0, none⟩) kbl).trans kb0; have s1 := (hSw.cell (p := ⟨A1, 1, none⟩) kbl).trans kb1; have s2 := (hSw.cell (p := ⟨A1, 2, none⟩) kbl).trans kb2; have s3 := (hSw.cell (p := ⟨A1, 3, none⟩) kbl).trans kb3; have s4 := (hSw.cell (p := ⟨A1, 4, none⟩) kbl).trans kb4; have s5 := (hSw.cell (p := ⟨A1, 5, none⟩) kbl).trans kb5; go_simp; try with_reducible rfl
    try simp only [Act.put, List.getElem_toArray, List.getElem_cons_zero, List.getElem_cons_succ, List.setIfInBounds_toArray, List.set_cons_zero, List.set_cons_succ]
    refine wpAnyH_ready (rs := [31]) (by kernel_rfl) (by simp) (AllReadyH.cons rfl (fun K hK => ?_) AllReadyH.nil)
    go_simp
    refine (cmp_is a0 a1 a2 a3 a4 a5 b0 b1 b2 b3 b4 b5 w15).mono ?_
    rintro e w16 ⟨rfl, hB⟩
    refine hK.out _ _ (hHeld.trans (hB.mono hHeld.size)) (fun hNew => ?_)
    clear hB
    clear hHeld hK K
    have hHeld := hNew
    clear hNew
    try simp only [Act.put, List.getElem_toArray, List.getElem_cons_zero, List.getElem_cons_succ, List.setIfInBounds_toArray, List.set_cons_zero, List.set_cons_succ]
    refine wpAnyH_ready (rs := [34]) (by kernel_rfl) (by simp) (AllReadyH.cons rfl (fun K hK => ?_) AllReadyH.nil)
    go_simp
    refine (rcmp_any a0 a1 a2 a3 a4 a5 b0 b1 b2 b3 b4 b5 w16).mono ?_
    rintro e w17 ⟨rfl, hB⟩
    refine hK.out _ _ (hHeld.trans (hB.mono hHeld.size)) (fun hNew => ?_)
    clear hB
    clear hHeld hK K
    have hHeld := hNew
    clear hNew
    try simp only [Act.put, List.getElem_toArray, List.getElem_cons_zero, List.getElem_cons_succ, List.setIfInBounds_toArray, List.set_cons_zero, List.set_cons_succ]
    refine wpAnyH_take (i := 35) (v := ?_) rfl (by kernel_rfl) (by kernel_rfl) (by kernel_rfl) (fun _ _ _ h => h) (Or.inl ⟨by rfl, ?_⟩) hHeld ?_
    rotate_left
    · intro w hSw; skip; go_simp; try with_reducible rfl
    try simp only [Act.put, List.getElem_toArray, List.getElem_cons_zero, List.getElem_cons_succ, List.setIfInBounds_toArray, List.set_cons_zero, List.set_cons_succ]
    refine wpAnyH_take (i := 36) (v := ?_) rfl (by kernel_rfl) (by kernel_rfl) (by kernel_rfl) (fun _ _ _ h => h) (Or.inl ⟨by rfl, ?_⟩) hHeld ?_
    rotate_left
    · intro w hSw; skip; go_simp; try with_reducible rfl
    try simp only [Act.put, List.getElem_toArray, List.getElem_cons_zero, List.getElem_cons_succ, List.setIfInBounds_toArray, List.set_cons_zero, List.set_cons_succ]
    refine wpAnyH_take (i := 37) (v := ?_) rfl (by kernel_rfl) (by kernel_rfl) (by kernel_rfl) (fun _ _ _ h => h) (Or.inl ⟨by rfl, ?_⟩) hHeld ?_
    rotate_left
    · intro w hSw; skip; go_simp; try with_reducible rfl
    try simp only [Act.put, List.getElem_toArray, List.getElem_cons_zero, List.getElem_cons_succ, List.setIfInBounds_toArray, List.set_cons_zero, List.set_cons_succ]
    refine wpAnyH_done (by kernel_rfl) ?_ _
    have KZ := DB.trans (hHeld.mono DB.size)
    clear hHeld ka0 ka1 ka2 ka3 ka4 ka5 kal kb0 kb1 kb2 kb3 kb4 kb5 kbl D0 D1
    go_wp2_with fail
    go_ret
    exact ⟨rfl, KZ⟩
  · have t1 : (1000 : Int) < ts.length := by omega
    clear hP ha hb hp ht hI hlen
    go_enter Tryz.func3, Tryz.ntmps3
    obtain ⟨kd0, kd1, kd2, kd3, kdl⟩ := lies.two D2
    go_wp2_with fail
    go_ret
    exact ⟨rfl, DB⟩

set_option maxRecDepth 100000 in
theorem lifted (os : Os) (started : os.Started) (H : Type) (enc : TypeId × Value → H) :
    ReturnsInHanded {} Tryz.checked os 3 .any (fun w args => (Rows.zoneTellsSpec.pre enc Tryz.prog Tryz.f3 [] false w args ∧ laidMetH Tryz.prog zopen.places w) ∧ sizedMet enc Tryz.prog Tryz.f3 (OpenSpec.ofChange Rows.zoneTellsSpec) false w args) (Rows.zoneTellsSpec.post enc Tryz.prog Tryz.f3 false true false false) := by
  refine returnsInHanded_of_change_and (C := Tryz.checked) (X := fun w _ => laidMetH Tryz.prog zopen.places w) (fun _ _ _ hh h => h.of_heap hh) law.own started (by kernel_rfl) Tryz.func3
    (ChangeSpec.witness_shaped (enc := enc) (C := Tryz.checked) (os := os) (X := fun w _ => laidMetH Tryz.prog zopen.places w) false (World.doorLaid Tryz.prog 400 os) #[.agg #[.int .i64 0, .int .i64 0, .int .i64 0, .int .i64 0, .int .i64 0, .int .i64 0], .agg #[.int .i64 0, .int .i64 0, .int .i64 0, .int .i64 0, .int .i64 0, .int .i64 0], .agg #[.int .i64 0, .slice none 0 0], .agg #[.int .i64 0, .int .i64 0, .int .i64 0, .int .i64 0]] 8 rfl (World.shaped_of_RefB (by kernel_rfl) (by kernel_rfl)) (by kernel_rfl) (by kernel_rfl) (by kernel_rfl) (zopen.door_met os _)) ?_
  intro W base args ds gs before hval0 hW _ _ hL _
  have hval : ∀ (j : Nat) t v, Tryz.f3.params[j]? = some t → args[j]? = some v → Value.okWide Tryz.prog W .any base t v := hval0
  have hW' := hW
  obtain ⟨p, q, hA0, hV, rfl, _, _⟩ := hW
  have hA : DataW.TrodAll enc Tryz.prog W 0 (fun _ => true) true Tryz.f3.params.toList args.toList ds p := hA0
  rw [Tryz.params3] at hA hval
  obtain ⟨v0, vs0, d0, ds0, p0, q0, hargs, rfl, rfl, h0, r0⟩ := trodAll_cons hA
  obtain ⟨v1, vs1, d1, ds1, p1, q1, rfl, rfl, rfl, h1, r1⟩ := trodAll_cons r0
  obtain ⟨v2, vs2, d2, ds2, p2, q2, rfl, rfl, rfl, h2, r2⟩ := trodAll_cons r1
  obtain ⟨v3, vs3, d3, ds3, p3, q3, rfl, rfl, rfl, h3, r3⟩ := trodAll_cons r2
  obtain ⟨rfl, rfl, rfl⟩ := trodAll_nil r3
  obtain rfl : args = #[v0, v1, v2, v3] := by cases args; simp_all
  obtain ⟨z00, z01, z02, z03, z04, z05, rfl, w0⟩ := zopen.open_zone (hval 0 24 v0 rfl rfl) h0
  obtain ⟨z10, z11, z12, z13, z14, z15, rfl, w1⟩ := zopen.open_zone (hval 1 24 v1 rfl rfl) h1
  obtain ⟨n2, sv2, ts2, rfl, _, w2, hI2, _⟩ := dlaw.open_dbm (hval 2 27 v2 rfl rfl) h2
  obtain ⟨a3, b3, c3, e3, rfl, w3⟩ := zopen.open_point (hval 3 31 v3 rfl rfl) h3
  refine (walk z00 z01 z02 z03 z04 z05 z10 z11 z12 z13 z14 z15 n2 sv2 ts2 a3 b3 c3 e3 W hI2 (fun x hx => ⟨law.wf_lo (w0 x hx), law.wf_hi (w0 x hx)⟩) (fun x hx => ⟨law.wf_lo (w1 x hx), law.wf_hi (w1 x hx)⟩) (fun x hx => ⟨law.wf_lo (w2 x hx), law.wf_hi (w2 x hx)⟩) (fun x hx => ⟨law.wf_lo (w3 x hx), law.wf_hi (w3 x hx)⟩) (zopen.laid_pl hL)).mono fun e W' ⟨he, hB⟩ => ?_
  subst he
  exact ⟨_, rfl, law.post_true law.laidOut (by kernel_rfl) rfl Tryz.underlying4 rfl hW' (fun h => by subst h; rfl) hB⟩

theorem proved : Rows.ZoneTellsSaid :=
  OpenClaim.holds_of_wide 3 Tryz.f3 rfl rfl rfl rfl rfl rfl rfl ⟨rfl, rfl, rfl, rfl, rfl⟩ rfl rfl rfl rfl rfl (by kernel_rfl) Tryz.func3 (by kernel_rfl)
    (of_decide_eq_true (by kernel_rfl)) (by unfold Func.isWrapper; first | (rw [if_pos (by decide +kernel)]; kernel_rfl) | (rw [if_neg (by decide +kernel)]; exact ⟨rfl, rfl⟩))
    (fun os started H enc _ => lifted os started H enc)
theorem card : Rows.ZoneTellsCardSaid :=
  Claim7.holds_tied_plain_at .later [] [.data] true (true, "2fd2abfdd0f5e775481ed0f9fd34bcf635f98831e4e99056060b006befe2b9ad") false
    proved (fun _ h => by cases h) (by kernel_rfl) (fun _ h => by cases h) zoneTells_row_tie rfl ⟨rfl, rfl⟩ (by kernel_rfl) rfl
    (fun f fn hf hfn => by
      obtain rfl : f = 3 := Option.some.inj ((show Tryz.prog.funcNamed "rallentando/rallentandolaw08.ZoneTells" = some 3 by kernel_rfl).symm.trans hf) |>.symm
      obtain rfl : fn = Tryz.f3 := (Option.some.inj (Tryz.func3.symm.trans hfn)).symm
      exact ⟨by kernel_rfl, fun j t ht => by
        rw [Tryz.params3] at ht
        have hm : t ∈ [24, 24, 27, 31] := by simpa using Array.mem_of_getElem? ht
        have hall : ([24, 24, 27, 31].all fun u => !Tryz.prog.wantsStandIn u) = true := by kernel_rfl
        exact (show Tryz.prog.wantsStandIn t = false by simpa using List.all_eq_true.1 hall t hm)⟩)
    (by kernel_rfl)
#print axioms card
end Go.Proofs.YtklejbheieceeaaGreatDoor.zoneTells
