/-
  WinShifts answers true for every zone, number and point; the listed variable reads as the program lays it.
-/
import Derived.Test.YtcaoooddmmhieaaDoorWinM
import Derived.Test.YtcaoooddmmhieaaDoorCards
import Derived.Test.YtcaoooddmmhieaaDoorTie
import Derived.BigQuiet
namespace Go.Proofs.YtcaoooddmmhieaaDoor.winShifts
open Go.Joins Go.ChangeShapes Go.WideShapes Go.ChangeAt Go.RowKit num rat dbm Go.Proofs.YtcaoooddmmhieaaDoor.tight Go.Proofs.YtcaoooddmmhieaaDoor.incl Go.Proofs.YtcaoooddmmhieaaDoor.plaw Go.Proofs.YtcaoooddmmhieaaDoor.zopen Go.Proofs.YtcaoooddmmhieaaDoor.zone Go.Proofs.YtcaoooddmmhieaaDoor.zlaw Go.Proofs.YtcaoooddmmhieaaDoor.win Go.Proofs.YtcaoooddmmhieaaDoor.wlaw
open bound hiding up
open Go.Proofs.YtcaoooddmmhieaaDoor.comp (five_cells)
set_option linter.unusedVariables false
set_option linter.unusedSimpArgs false

/-- a fraction so much less, in lowest terms. -/
theorem less_frac {p q x y k : Int} (h : MayR p q) (m : MayR x y) (e : x * (q * 1 * 1) = (p * 1 + -k * q) * y) : p = x + k * y ∧ q = y := by
  have g : Int.gcd (x + k * y) y = 1 := by
    have g1 : gcdI y ((x + k * y) % y) = gcdI y (x % y) := by rw [Int.add_mul_emod_self_right]
    rw [gcd_part, gcd_part] at g1
    have g0 : gcdI x y = 1 := by unfold gcdI; rw [m.2.2.2.2]; rfl
    rw [g0] at g1
    unfold gcdI at g1
    exact Int.ofNat.inj g1
  refine low_unique h.2.2.2.2 g h.1 m.1 ?_
  have e1 : x * (q * 1 * 1) = x * q := by rw [Int.mul_one, Int.mul_one]
  have e2 : (p * 1 + -k * q) * y = p * y + -(k * q * y) := by rw [Int.mul_one, Int.add_mul, Int.neg_mul, Int.neg_mul]
  have e3 : (x + k * y) * q = x * q + k * q * y := by rw [Int.add_mul, Int.mul_assoc k y q, Int.mul_comm y q, ← Int.mul_assoc]
  rw [e1, e2] at e
  rw [e3]
  omega
theorem shift_back {z b c : List Int} {k e f : Int} (lz : z.length = 6) (hb : ShiftR z k b e) (he : e = 0) (hc : ShiftR b (-k) c f) : f = 0 ∧ c = z := by
  subst he
  rcases hb with ⟨_, _, n⟩ | ⟨_, _, _, n⟩ | ⟨_, _, _, _, n⟩ | ⟨hz, hk, hm, rfl, _⟩
  · exact absurd n (by decide)
  · exact absurd n (by decide)
  · exact absurd n (by decide)
  · have e := later_back lz hz.may hk
    rcases hc with ⟨n, _⟩ | ⟨_, n, _⟩ | ⟨_, _, n, _⟩ | ⟨_, _, _, h1, h2⟩
    · exact (n hm).elim
    · exact (n (in_neg hk)).elim
    · rw [e] at n; exact (n hz).elim
    · exact ⟨h2, h1.trans e⟩
/-- a pair is in a later zone just if both times, as much less, are in the zone. -/
theorem points {z : List Int} {k a b c d x y u v : Int} {one two : Bool} {j l : Int} (hz : MayZ z) (hk : In k) (hm : MayZ (laterT z k)) (h1 : partE 1 a b (-k) 1 = 0) (h2 : partE 1 c d (-k) 1 = 0) (ex : partN 1 a b (-k) 1 = x) (ey : partD 1 a b (-k) 1 = y) (eu : partN 1 c d (-k) 1 = u) (ev : partD 1 c d (-k) 1 = v)
    (ho : HasR (laterT z k) a b c d one j) (ht : HasR z x y u v two l) : j = 0 ∧ l = 0 ∧ one = two := by
  obtain ⟨m1, m2, m3, _⟩ := part_good (by decide) h1
  obtain ⟨n1, n2, n3, _⟩ := part_good (by decide) h2
  rw [ex, ey] at m2 m3
  rw [eu, ev] at n2 n3
  obtain ⟨rfl, rfl⟩ := less_frac m1.1 m2 m3
  obtain ⟨rfl, rfl⟩ := less_frac n1.1 n2 n3
  rcases ho with ⟨n, _⟩ | ⟨_, _, _, e1, i1⟩
  · exact (n ⟨hm, m1.1, n1.1⟩).elim
  rcases ht with ⟨n, _⟩ | ⟨_, _, _, e2, i2⟩
  · exact (n ⟨hz, m2, n2⟩).elim
  refine ⟨e1, e2, ?_⟩
  rw [Bool.eq_iff_iff, i1, i2]
  exact later_kept hz.may hk hm.may m2 m1.1 n2 n1.1
theorem fit_of {a b c d k x y u v g1 g2 : Int} (ex : partN 1 a b (-k) 1 = x) (ey : partD 1 a b (-k) 1 = y) (h1 : partE 1 a b (-k) 1 = g1) (eu : partN 1 c d (-k) 1 = u) (ev : partD 1 c d (-k) 1 = v) (h2 : partE 1 c d (-k) 1 = g2) : zone.Fit [x, y, u, v] := by
  have key : ∀ {a b x y : Int}, partN 1 a b (-k) 1 = x → partD 1 a b (-k) 1 = y → (-9223372036854775808 ≤ x ∧ x ≤ 9223372036854775807) ∧ (-9223372036854775808 ≤ y ∧ y ≤ 9223372036854775807) := fun {a b x y} ex ey => by
    by_cases h : partE 1 a b (-k) 1 = 0
    · obtain ⟨_, m2, _, m4, m5⟩ := part_good (by decide) h
      rw [ex] at m4 m5
      have := m2.1
      have := m2.2.1
      rw [ey] at *
      exact ⟨⟨m4, m5⟩, by omega⟩
    · obtain ⟨e1, e2⟩ := part_wrong h
      rw [ex] at e1
      rw [ey] at e2
      omega
  obtain ⟨k1, k2⟩ := key ex ey
  obtain ⟨k3, k4⟩ := key eu ev
  intro z hz
  simp only [List.mem_cons, List.not_mem_nil, or_false] at hz
  rcases hz with rfl | rfl | rfl | rfl
  · exact k1
  · exact k2
  · exact k3
  · exact k4

set_option maxRecDepth 100000 in
set_option maxHeartbeats 16000000 in
theorem walk (a0 a1 a2 a3 a4 a5 k pa pb pc pd : Int) (w : World) (ha : ∀ x ∈ [a0, a1, a2, a3, a4, a5], -9223372036854775808 ≤ x ∧ x ≤ 9223372036854775807) (hp : ∀ x ∈ [pa, pb, pc, pd], -9223372036854775808 ≤ x ∧ x ≤ 9223372036854775807) (hk : -9223372036854775808 ≤ k ∧ k ≤ 9223372036854775807) (hP : Pl w) : Calls Tryd.prog 7 #[.agg #[.int .i64 a0, .int .i64 a1, .int .i64 a2, .int .i64 a3, .int .i64 a4, .int .i64 a5], .int .i64 k, .agg #[.int .i64 pa, .int .i64 pb, .int .i64 pc, .int .i64 pd]] w fun e w' => e = .returned (.bool true) ∧ Below w.heap.size w w' := by
  have TA := Lib.hid (show Tops [a0, a1, a2, a3, a4, a5] from fun x hx => (ha x hx).2)
  have HF := Lib.hid (show zone.Fit [pa, pb, pc, pd] from hp)
  have HK := Lib.hid hk
  have X : ∃ w0, w0 = (w.alloc (.cells #[.int .i64 a0, .int .i64 a1, .int .i64 a2, .int .i64 a3, .int .i64 a4, .int .i64 a5] 24)).alloc (.cells #[.int .i64 pa, .int .i64 pb, .int .i64 pc, .int .i64 pd] 44) := ⟨_, rfl⟩
  obtain ⟨w0, hX⟩ := X
  have DB : Below w.heap.size w w0 := by rw [hX]; exact bound.up2 _ _ _
  have D0 : lies.Lies w0 w.heap.size 24 #[.int .i64 a0, .int .i64 a1, .int .i64 a2, .int .i64 a3, .int .i64 a4, .int .i64 a5] := by rw [hX]; exact lies.on_alloc (lies.made _ _ _) _
  have D1 : lies.Lies w0 (w.heap.size + 1) 44 #[.int .i64 pa, .int .i64 pb, .int .i64 pc, .int .i64 pd] := by rw [hX]; exact lies.made_at _ _ _ _ (by simp)
  have P0 := hP.on DB
  clear hP ha hp hk
  go_enter Tryd.func7, Tryd.ntmps7
  go_wp2_with fail
  rw [← hX]
  clear hX
  refine (alive_yes w0 P0).mono ?_
  rintro e w1 ⟨rfl, hB⟩
  replace D0 := lies.on_call D0 hB
  replace D1 := lies.on_call D1 hB
  replace P0 := P0.on hB
  replace DB := later DB hB
  clear hB
  obtain ⟨⟨kD0_0, kD0_1, kD0_2, kD0_3, kD0_4, kD0_5⟩, -⟩ := six_cells D0
  have kD0_l := lies.lt D0
  go_wp2_with fail
  clear kD0_0 kD0_1 kD0_2 kD0_3 kD0_4 kD0_5 kD0_l
  refine (shift_any a0 a1 a2 a3 a4 a5 k w1 P0 TA.out).mono ?_
  rintro e w2 ⟨hB, b0, b1, b2, b3, b4, b5, f, rfl, hS⟩
  replace D0 := lies.on_call D0 hB
  replace D1 := lies.on_call D1 hB
  replace P0 := P0.on hB
  replace DB := later DB hB
  clear hB
  have HS := Lib.hid hS
  rcases hS with ⟨_, e1, rfl⟩ | ⟨_, _, e1, rfl⟩ | ⟨_, _, _, e1, rfl⟩ | ⟨hz, hkk, hm, e1, rfl⟩
  · skip
    obtain ⟨rfl, rfl, rfl, rfl, rfl, rfl⟩ : b0 = 0 ∧ b1 = 0 ∧ b2 = 0 ∧ b3 = 0 ∧ b4 = 0 ∧ b5 = 0 := by simpa [zero6] using e1
    clear HS e1
    have hq : ∀ W, (Op.equalIn 10000 24 (.agg #[.int .i64 0, .int .i64 0, .int .i64 0, .int .i64 0, .int .i64 0, .int .i64 0]) (.agg #[.int .i64 0, .int .i64 0, .int .i64 0, .int .i64 0, .int .i64 0, .int .i64 0])).run Tryd.prog W = .ok true W := fun W => by rw [eq_zone]; simp
    go_wp2_with fail
    go_ret
    exact ⟨rfl, lies.frame_up DB _⟩
  · skip
    obtain ⟨rfl, rfl, rfl, rfl, rfl, rfl⟩ : b0 = 0 ∧ b1 = 0 ∧ b2 = 0 ∧ b3 = 0 ∧ b4 = 0 ∧ b5 = 0 := by simpa [zero6] using e1
    clear HS e1
    have hq : ∀ W, (Op.equalIn 10000 24 (.agg #[.int .i64 0, .int .i64 0, .int .i64 0, .int .i64 0, .int .i64 0, .int .i64 0]) (.agg #[.int .i64 0, .int .i64 0, .int .i64 0, .int .i64 0, .int .i64 0, .int .i64 0])).run Tryd.prog W = .ok true W := fun W => by rw [eq_zone]; simp
    go_wp2_with fail
    go_ret
    exact ⟨rfl, lies.frame_up DB _⟩
  · skip
    obtain ⟨rfl, rfl, rfl, rfl, rfl, rfl⟩ : b0 = 0 ∧ b1 = 0 ∧ b2 = 0 ∧ b3 = 0 ∧ b4 = 0 ∧ b5 = 0 := by simpa [zero6] using e1
    clear HS e1
    have hq : ∀ W, (Op.equalIn 10000 24 (.agg #[.int .i64 0, .int .i64 0, .int .i64 0, .int .i64 0, .int .i64 0, .int .i64 0]) (.agg #[.int .i64 0, .int .i64 0, .int .i64 0, .int .i64 0, .int .i64 0, .int .i64 0])).run Tryd.prog W = .ok true W := fun W => by rw [eq_zone]; simp
    go_wp2_with fail
    go_ret
    exact ⟨rfl, lies.frame_up DB _⟩
  · have HZ := Lib.hid hz
    have HI := Lib.hid hkk
    have HM := Lib.hid hm
    obtain ⟨rfl, rfl, rfl, rfl, h4, h5⟩ : b0 = shB a0 k ∧ b1 = shB a1 (-k) ∧ b2 = shB a2 k ∧ b3 = shB a3 (-k) ∧ b4 = a4 ∧ b5 = a5 := by simpa [later_is] using e1
    obtain rfl := h4.symm
    obtain rfl := h5.symm
    have HS2 := Lib.hid (show ShiftR [a0, a1, a2, a3, a4, a5] k [shB a0 k, shB a1 (-k), shB a2 k, shB a3 (-k), a4, a5] 0 from HS.out)
    clear e1 HS hz hm
    have HTL := Lib.hid (show Tops [shB a0 k, shB a1 (-k), shB a2 k, shB a3 (-k), a4, a5] from later_tops (z := [a0, a1, a2, a3, a4, a5]) HZ.out.may HI.out)
    have q1 : wrap64 (-k) = -k := by unfold In at hkk; exact IntWalk.wrap64_in _ ⟨by omega, by omega⟩
    have q2 : IntKind.i64.wrap (-k) = -k := (IntWalk.i64_left _).trans q1
    clear hkk
    generalize hl0 : shB a0 k = l0 at HS2 HTL ⊢
    generalize hl1 : shB a1 (-k) = l1 at HS2 HTL ⊢
    generalize hl2 : shB a2 k = l2 at HS2 HTL ⊢
    generalize hl3 : shB a3 (-k) = l3 at HS2 HTL ⊢
    have HL := Lib.hid (show laterT [a0, a1, a2, a3, a4, a5] k = [l0, l1, l2, l3, a4, a5] from by rw [later_is, hl0, hl1, hl2, hl3])
    clear hl0 hl1 hl2 hl3
    go_wp2_with fail
    have hA := bound.up1 w2 (.cells #[.int .i64 l0, .int .i64 l1, .int .i64 l2, .int .i64 l3, .int .i64 a4, .int .i64 a5] 24)
    have D2 := lies.made w2 24 #[.int .i64 l0, .int .i64 l1, .int .i64 l2, .int .i64 l3, .int .i64 a4, .int .i64 a5]
    replace D0 := lies.on_call D0 hA
    replace D1 := lies.on_call D1 hA
    replace P0 := P0.on hA
    replace DB := later DB hA
    clear hA
    generalize w2.heap.size = XD2 at D2 ⊢
    generalize w2.alloc (.cells #[.int .i64 l0, .int .i64 l1, .int .i64 l2, .int .i64 l3, .int .i64 a4, .int .i64 a5] 24) = v3 at D0 D1 D2 P0 DB ⊢
    refine (shift_any l0 l1 l2 l3 a4 a5 (-k) v3 P0 HTL.out).mono ?_
    rintro e w4 ⟨hB, c0, c1, c2, c3, c4, c5, g, rfl, hS⟩
    replace D0 := lies.on_call D0 hB
    replace D1 := lies.on_call D1 hB
    replace D2 := lies.on_call D2 hB
    replace P0 := P0.on hB
    replace DB := later DB hB
    clear hB
    obtain ⟨rfl, e1⟩ := shift_back (z := [a0, a1, a2, a3, a4, a5]) rfl HS2.out rfl hS
    obtain ⟨rfl, rfl, rfl, rfl, rfl, rfl⟩ : a0 = c0 ∧ a1 = c1 ∧ a2 = c2 ∧ a3 = c3 ∧ a4 = c4 ∧ a5 = c5 := by simpa using e1.symm
    clear e1 hS HS2
    have hq : ∀ W, (Op.equalIn 10000 24 (.agg #[.int .i64 a0, .int .i64 a1, .int .i64 a2, .int .i64 a3, .int .i64 a4, .int .i64 a5]) (.agg #[.int .i64 a0, .int .i64 a1, .int .i64 a2, .int .i64 a3, .int .i64 a4, .int .i64 a5])).run Tryd.prog W = .ok true W := fun W => by rw [eq_zone]; simp
    obtain ⟨⟨kD0_0, kD0_1, kD0_2, kD0_3, kD0_4, kD0_5⟩, -⟩ := six_cells D0
    have kD0_l := lies.lt D0
    go_wp2_with fail
    clear kD0_0 kD0_1 kD0_2 kD0_3 kD0_4 kD0_5 kD0_l
    have hA := bound.up1 w4 (.cells #[.int .i64 a0, .int .i64 a1, .int .i64 a2, .int .i64 a3, .int .i64 a4, .int .i64 a5] 24)
    have D3 := lies.made w4 24 #[.int .i64 a0, .int .i64 a1, .int .i64 a2, .int .i64 a3, .int .i64 a4, .int .i64 a5]
    replace D0 := lies.on_call D0 hA
    replace D1 := lies.on_call D1 hA
    replace D2 := lies.on_call D2 hA
    replace P0 := P0.on hA
    replace DB := later DB hA
    clear hA
    generalize w4.heap.size = XD3 at D3 ⊢
    generalize w4.alloc (.cells #[.int .i64 a0, .int .i64 a1, .int .i64 a2, .int .i64 a3, .int .i64 a4, .int .i64 a5] 24) = v5 at D0 D1 D2 D3 P0 DB ⊢
    clear hq
    have HMK := Lib.hid (in_may (in_neg HI.out))
    refine ((by have := of3_any (-k) 1 v5 (by have := HI.out; unfold In at this; omega) (by have := HI.out; unfold In at this; omega) (by decide); rwa [(of_whole HMK.out).1, (of_whole HMK.out).2.1, (of_whole HMK.out).2.2] at this : Calls Tryd.prog 24 #[.int .i64 (-k), .int .i64 1] v5 fun e w' => e = .returned (.tuple #[.agg #[.int .i64 (-k), .int .i64 1], .int .i64 0]) ∧ Below v5.heap.size v5 w')).mono ?_
    rintro e w6 ⟨rfl, hB⟩
    replace D0 := lies.on_call D0 hB
    replace D1 := lies.on_call D1 hB
    replace D2 := lies.on_call D2 hB
    replace D3 := lies.on_call D3 hB
    replace P0 := P0.on hB
    replace DB := later DB hB
    clear hB
    clear q1 q2 HMK
    obtain ⟨⟨kD1_0, kD1_1, kD1_2, kD1_3⟩, -⟩ := four_cells D1
    have kD1_l := lies.lt D1
    go_wp2_with fail
    clear kD1_0 kD1_1 kD1_2 kD1_3 kD1_l
    have hA := bound.up1 w6 (.cells #[.int .i64 (-k), .int .i64 1] 42)
    have D4 := lies.made w6 42 #[.int .i64 (-k), .int .i64 1]
    replace D0 := lies.on_call D0 hA
    replace D1 := lies.on_call D1 hA
    replace D2 := lies.on_call D2 hA
    replace D3 := lies.on_call D3 hA
    replace P0 := P0.on hA
    replace DB := later DB hA
    clear hA
    generalize w6.heap.size = XD4 at D4 ⊢
    generalize w6.alloc (.cells #[.int .i64 (-k), .int .i64 1] 42) = v7 at D0 D1 D2 D3 D4 P0 DB ⊢
    have CA := Lib.hid (fun W => add3_any pa pb (-k) 1 W (HF.out pa (by simp)).1 (HF.out pa (by simp)).2 (by have := HI.out; unfold In at this; omega) (by have := HI.out; unfold In at this; omega))
    obtain ⟨x, hx⟩ : ∃ n, partN 1 pa pb (-k) 1 = n := ⟨_, rfl⟩
    obtain ⟨y, hy⟩ : ∃ n, partD 1 pa pb (-k) 1 = n := ⟨_, rfl⟩
    obtain ⟨g1, hg1⟩ : ∃ n, partE 1 pa pb (-k) 1 = n := ⟨_, rfl⟩
    rw [hx, hy, hg1] at CA
    have Hx := Lib.hid hx
    have Hy := Lib.hid hy
    have Hg1 := Lib.hid hg1
    clear hx hy hg1
    refine (CA.out v7).mono ?_
    rintro e w8 ⟨rfl, hB⟩
    replace D0 := lies.on_call D0 hB
    replace D1 := lies.on_call D1 hB
    replace D2 := lies.on_call D2 hB
    replace D3 := lies.on_call D3 hB
    replace D4 := lies.on_call D4 hB
    replace P0 := P0.on hB
    replace DB := later DB hB
    clear hB
    clear CA
    obtain ⟨⟨kD1_0, kD1_1, kD1_2, kD1_3⟩, -⟩ := four_cells D1
    have kD1_l := lies.lt D1
    obtain ⟨kD4_0, kD4_1, -, -, -⟩ := lies.two D4
    have kD4_l := lies.lt D4
    go_wp2_with fail
    clear kD1_0 kD1_1 kD1_2 kD1_3 kD1_l kD4_0 kD4_1 kD4_l
    have hA := bound.up1 w8 (.cells #[.int .i64 x, .int .i64 y] 42)
    have D5 := lies.made w8 42 #[.int .i64 x, .int .i64 y]
    replace D0 := lies.on_call D0 hA
    replace D1 := lies.on_call D1 hA
    replace D2 := lies.on_call D2 hA
    replace D3 := lies.on_call D3 hA
    replace D4 := lies.on_call D4 hA
    replace P0 := P0.on hA
    replace DB := later DB hA
    clear hA
    generalize w8.heap.size = XD5 at D5 ⊢
    generalize w8.alloc (.cells #[.int .i64 x, .int .i64 y] 42) = v9 at D0 D1 D2 D3 D4 D5 P0 DB ⊢
    have CA := Lib.hid (fun W => add3_any pc pd (-k) 1 W (HF.out pc (by simp)).1 (HF.out pc (by simp)).2 (by have := HI.out; unfold In at this; omega) (by have := HI.out; unfold In at this; omega))
    obtain ⟨u, hu⟩ : ∃ n, partN 1 pc pd (-k) 1 = n := ⟨_, rfl⟩
    obtain ⟨v, hv⟩ : ∃ n, partD 1 pc pd (-k) 1 = n := ⟨_, rfl⟩
    obtain ⟨g2, hg2⟩ : ∃ n, partE 1 pc pd (-k) 1 = n := ⟨_, rfl⟩
    rw [hu, hv, hg2] at CA
    have Hu := Lib.hid hu
    have Hv := Lib.hid hv
    have Hg2 := Lib.hid hg2
    clear hu hv hg2
    refine (CA.out v9).mono ?_
    rintro e w10 ⟨rfl, hB⟩
    replace D0 := lies.on_call D0 hB
    replace D1 := lies.on_call D1 hB
    replace D2 := lies.on_call D2 hB
    replace D3 := lies.on_call D3 hB
    replace D4 := lies.on_call D4 hB
    replace D5 := lies.on_call D5 hB
    replace P0 := P0.on hB
    replace DB := later DB hB
    clear hB
    clear CA
    by_cases hg1 : g1 = 0
    · skip
      subst hg1
      by_cases hg2 : g2 = 0
      · skip
        subst hg2
        obtain ⟨⟨kD2_0, kD2_1, kD2_2, kD2_3, kD2_4, kD2_5⟩, -⟩ := six_cells D2
        have kD2_l := lies.lt D2
        obtain ⟨⟨kD1_0, kD1_1, kD1_2, kD1_3⟩, -⟩ := four_cells D1
        have kD1_l := lies.lt D1
        go_wp2_with fail
        clear kD2_0 kD2_1 kD2_2 kD2_3 kD2_4 kD2_5 kD2_l kD1_0 kD1_1 kD1_2 kD1_3 kD1_l
        have hA := bound.up1 w10 (.cells #[.int .i64 u, .int .i64 v] 42)
        have D6 := lies.made w10 42 #[.int .i64 u, .int .i64 v]
        replace D0 := lies.on_call D0 hA
        replace D1 := lies.on_call D1 hA
        replace D2 := lies.on_call D2 hA
        replace D3 := lies.on_call D3 hA
        replace D4 := lies.on_call D4 hA
        replace D5 := lies.on_call D5 hA
        replace P0 := P0.on hA
        replace DB := later DB hA
        clear hA
        generalize w10.heap.size = XD6 at D6 ⊢
        generalize w10.alloc (.cells #[.int .i64 u, .int .i64 v] 42) = v11 at D0 D1 D2 D3 D4 D5 D6 P0 DB ⊢
        refine (has_any l0 l1 l2 l3 a4 a5 pa pb pc pd v11 P0 HTL.out HF.out).mono ?_
        rintro e w12 ⟨hB, one, j, rfl, hR⟩
        replace D0 := lies.on_call D0 hB
        replace D1 := lies.on_call D1 hB
        replace D2 := lies.on_call D2 hB
        replace D3 := lies.on_call D3 hB
        replace D4 := lies.on_call D4 hB
        replace D5 := lies.on_call D5 hB
        replace D6 := lies.on_call D6 hB
        replace P0 := P0.on hB
        replace DB := later DB hB
        clear hB
        have HO := Lib.hid (show HasR (laterT [a0, a1, a2, a3, a4, a5] k) pa pb pc pd one j from by rw [HL.out]; exact hR)
        clear hR
        obtain ⟨⟨kD0_0, kD0_1, kD0_2, kD0_3, kD0_4, kD0_5⟩, -⟩ := six_cells D0
        have kD0_l := lies.lt D0
        obtain ⟨kD5_0, kD5_1, -, -, -⟩ := lies.two D5
        have kD5_l := lies.lt D5
        obtain ⟨kD6_0, kD6_1, -, -, -⟩ := lies.two D6
        have kD6_l := lies.lt D6
        go_wp2_with fail
        clear kD0_0 kD0_1 kD0_2 kD0_3 kD0_4 kD0_5 kD0_l kD5_0 kD5_1 kD5_l kD6_0 kD6_1 kD6_l
        have HXY := Lib.hid (show zone.Fit [x, y, u, v] from fit_of Hx.out Hy.out Hg1.out Hu.out Hv.out Hg2.out)
        refine (has_any a0 a1 a2 a3 a4 a5 x y u v w12 P0 TA.out HXY.out).mono ?_
        rintro e w13 ⟨hB, two, l, rfl, hR⟩
        replace D0 := lies.on_call D0 hB
        replace D1 := lies.on_call D1 hB
        replace D2 := lies.on_call D2 hB
        replace D3 := lies.on_call D3 hB
        replace D4 := lies.on_call D4 hB
        replace D5 := lies.on_call D5 hB
        replace D6 := lies.on_call D6 hB
        replace P0 := P0.on hB
        replace DB := later DB hB
        clear hB
        obtain ⟨rfl, rfl, rfl⟩ := points HZ.out HI.out HM.out Hg1.out Hg2.out Hx.out Hy.out Hu.out Hv.out HO.out hR
        clear hR HO
        clear HL HZ HI HM HTL Hx Hy Hu Hv Hg1 Hg2 HF TA HK HXY
        cases one
        all_goals
          go_wp2_with fail
          go_ret
          exact ⟨rfl, DB⟩
      · skip
        have hbn : (g2 == 0) = false := by simpa using hg2
        have hbm : (g2 != 0) = true := by simpa using hg2
        clear hg2 HL HZ HI HM HTL Hx Hy Hu Hv Hg1 Hg2 HF TA HK
        go_wp2_with fail
        go_ret
        exact ⟨rfl, lies.frame_up DB _⟩
    · skip
      have hbn : (g1 == 0) = false := by simpa using hg1
      have hbm : (g1 != 0) = true := by simpa using hg1
      clear hg1 HL HZ HI HM HTL Hx Hy Hu Hv Hg1 Hg2 HF TA HK
      go_wp2_with fail
      go_ret
      exact ⟨rfl, lies.frame_up DB _⟩

set_option maxRecDepth 100000 in
theorem lifted (os : Os) (started : os.Started) (H : Type) (enc : TypeId × Value → H) :
    ReturnsInHanded {} Tryd.checked os 7 .any (fun w args => (Rows.winShiftsSpec.pre enc Tryd.prog Tryd.f7 [] false w args ∧ laidMetH Tryd.prog zopen.places w) ∧ sizedMet enc Tryd.prog Tryd.f7 (OpenSpec.ofChange Rows.winShiftsSpec) false w args) (Rows.winShiftsSpec.post enc Tryd.prog Tryd.f7 false true false false) := by
  refine returnsInHanded_of_change_and (C := Tryd.checked) (X := fun w _ => laidMetH Tryd.prog zopen.places w) (fun _ _ _ hh h => h.of_heap hh) law.own started (by kernel_rfl) Tryd.func7
    (ChangeSpec.witness_shaped (enc := enc) (C := Tryd.checked) (os := os) (X := fun w _ => laidMetH Tryd.prog zopen.places w) false (World.doorLaid Tryd.prog 400 os) #[.agg #[.int .i64 0, .int .i64 0, .int .i64 0, .int .i64 0, .int .i64 0, .int .i64 0], .int .i64 0, .agg #[.int .i64 0, .int .i64 0, .int .i64 0, .int .i64 0]] 8 rfl (World.shaped_of_RefB (by kernel_rfl) (by kernel_rfl)) (by kernel_rfl) (by kernel_rfl) (by kernel_rfl) (zopen.door_met os _)) ?_
  intro W base args ds gs before hval0 hW _ _ hL _
  have hval : ∀ (j : Nat) t v, Tryd.f7.params[j]? = some t → args[j]? = some v → Value.okWide Tryd.prog W .any base t v := hval0
  have hW' := hW
  obtain ⟨p, q, hA0, hV, rfl, _, _⟩ := hW
  have hA : DataW.TrodAll enc Tryd.prog W 0 (fun _ => true) true Tryd.f7.params.toList args.toList ds p := hA0
  rw [Tryd.params7] at hA hval
  obtain ⟨v0, vs0, d0, ds0, p0, q0, hargs, rfl, rfl, h0, r0⟩ := trodAll_cons hA
  obtain ⟨v1, vs1, d1, ds1, p1, q1, rfl, rfl, rfl, h1, r1⟩ := trodAll_cons r0
  obtain ⟨v2, vs2, d2, ds2, p2, q2, rfl, rfl, rfl, h2, r2⟩ := trodAll_cons r1
  obtain ⟨rfl, rfl, rfl⟩ := trodAll_nil r2
  obtain rfl : args = #[v0, v1, v2] := by cases args; simp_all
  obtain ⟨z00, z01, z02, z03, z04, z05, rfl, w0⟩ := zopen.open_zone (hval 0 24 v0 rfl rfl) h0
  obtain ⟨m1, rfl, rfl, rfl, x1⟩ := open_int Tryd.underlying3 (hval 1 3 v1 rfl rfl) h1
  obtain ⟨a2, b2, c2, e2, rfl, w2⟩ := zopen.open_point (hval 2 44 v2 rfl rfl) h2
  refine (walk z00 z01 z02 z03 z04 z05 m1 a2 b2 c2 e2 W (fun x hx => ⟨law.wf_lo (w0 x hx), law.wf_hi (w0 x hx)⟩) (fun x hx => ⟨law.wf_lo (w2 x hx), law.wf_hi (w2 x hx)⟩) ⟨law.wf_lo x1, law.wf_hi x1⟩ (zopen.laid_pl hL)).mono fun e W' ⟨he, hB⟩ => ?_
  subst he
  exact ⟨_, rfl, law.post_true law.laidOut (by kernel_rfl) rfl Tryd.underlying4 rfl hW' (fun h => by subst h; rfl) hB⟩

theorem proved : Rows.WinShiftsSaid :=
  OpenClaim.holds_of_wide 7 Tryd.f7 rfl rfl rfl rfl rfl rfl rfl ⟨rfl, rfl, rfl, rfl, rfl⟩ rfl rfl rfl rfl rfl (by kernel_rfl) Tryd.func7 (by kernel_rfl)
    (of_decide_eq_true (by kernel_rfl)) (by unfold Func.isWrapper; first | (rw [if_pos (by decide +kernel)]; kernel_rfl) | (rw [if_neg (by decide +kernel)]; exact ⟨rfl, rfl⟩))
    (fun os started H enc _ => lifted os started H enc)
theorem card : Rows.WinShiftsCardSaid :=
  Claim7.holds_tied_plain_at .later [] [.data] true (true, "0e35938ca2f85e4d4a747e9ff2f0a86df4808d42b014bcedf4017d6c199ae299") false
    proved (fun _ h => by cases h) (by kernel_rfl) (fun _ h => by cases h) winShifts_row_tie rfl ⟨rfl, rfl⟩ (by kernel_rfl) rfl
    (fun f fn hf hfn => by
      obtain rfl : f = 7 := Option.some.inj ((show Tryd.prog.funcNamed "rallentando/rallentandolaw10.WinShifts" = some 7 by kernel_rfl).symm.trans hf) |>.symm
      obtain rfl : fn = Tryd.f7 := (Option.some.inj (Tryd.func7.symm.trans hfn)).symm
      exact ⟨by kernel_rfl, fun j t ht => by
        rw [Tryd.params7] at ht
        have hm : t ∈ [24, 3, 44] := by simpa using Array.mem_of_getElem? ht
        have hall : ([24, 3, 44].all fun u => !Tryd.prog.wantsStandIn u) = true := by kernel_rfl
        exact (show Tryd.prog.wantsStandIn t = false by simpa using List.all_eq_true.1 hall t hm)⟩)
    (by kernel_rfl)
#print axioms card
end Go.Proofs.YtcaoooddmmhieaaDoor.winShifts
