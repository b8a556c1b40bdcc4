/-
  Times of eighths, and the small functions of package incl: whole, plus, or, between; each theorem names its conditions.
-/
import Derived.Test.YtnbpcgkdnkihdaaInclMath
import Derived.Test.YtnbpcgkdnkihdaaTightD
import Derived.Test.YtnbpcgkdnkihdaaRatC
namespace Go.Proofs.Ytnbpcgkdnkihdaa.incl
open Go.ChangeShapes Go.WideShapes Go.ChangeAt Go.RowKit num rat
open bound hiding up
set_option linter.unusedVariables false
set_option linter.unusedSimpArgs false

/-- a number of eighths, in lowest terms. -/
def p8 (X : Int) : Int := lowP X 8
def q8 (X : Int) : Int := lowQ X 8
/-- .. that is not too far for a fraction. -/
def Near (X : Int) : Prop := (-18446744073709551614 ≤ X ∧ X ≤ 18446744073709551614) ∧ (X % 2 = 0 ∨ (-9223372036854775807 ≤ X ∧ X ≤ 9223372036854775807))
theorem cross8 (X : Int) : p8 X * 8 = X * q8 X := (low_parts X 8 (by decide)).2.2.1
theorem q8_in (X : Int) : 1 ≤ q8 X ∧ q8 X ≤ 8 := lowQ_in X 8 (by decide)
theorem q8_even {X : Int} (h : X % 2 = 0) : q8 X ≤ 4 := by
  have h1 := (low_parts X 8 (by decide)).2.1
  have h2 : (2 : Int) ∣ gcdI X 8 := Int.dvd_coe_gcd (Int.dvd_of_emod_eq_zero h) (by decide)
  have h3 := gcd_pos X 8 (by decide)
  have h4 := Int.le_of_dvd (by omega) h2
  have h5 := q8_in X
  have h6 : q8 X * gcdI X 8 = 8 := h1
  have h7 : q8 X * 2 ≤ q8 X * gcdI X 8 := Int.mul_le_mul_of_nonneg_left h4 (by omega)
  omega
theorem q8_one (X : Int) : q8 X = 1 ∨ q8 X = 2 ∨ q8 X = 3 ∨ q8 X = 4 ∨ q8 X = 5 ∨ q8 X = 6 ∨ q8 X = 7 ∨ q8 X = 8 := by
  have := q8_in X
  omega
theorem near_fits {X : Int} (h : Near X) : (-9223372036854775808 ≤ p8 X ∧ p8 X ≤ 9223372036854775807) ∧ -9223372036854775808 ≤ q8 X ∧ q8 X ≤ 9223372036854775807 := by
  have h1 := cross8 X
  have h2 := q8_in X
  obtain ⟨⟨a1, a2⟩, h3 | ⟨b1, b2⟩⟩ := h
  · have h4 := q8_even h3
    rcases q8_one X with e | e | e | e | e | e | e | e <;> rw [e] at h1 h4 ⊢ <;> omega
  · rcases q8_one X with e | e | e | e | e | e | e | e <;> rw [e] at h1 ⊢ <;> omega
theorem near_may {X : Int} (h : Near X) : MayR (p8 X) (q8 X) := by
  have h1 := cross8 X
  have h2 := q8_in X
  have h3 : Int.gcd (p8 X) (q8 X) = 1 := (low_parts X 8 (by decide)).2.2.2
  obtain ⟨⟨a1, a2⟩, _⟩ := h
  refine ⟨h2.1, by omega, ?_, ?_, h3⟩
  · rcases q8_one X with e | e | e | e | e | e | e | e <;> rw [e] at h1 ⊢ <;> omega
  · rcases q8_one X with e | e | e | e | e | e | e | e <;> rw [e] at h1 ⊢ <;> omega
theorem lowest8 {X : Int} (h : Near X) : lowN X 8 = p8 X ∧ lowD X 8 = q8 X ∧ rat.lowE X 8 = 0 := low_yes ⟨(near_fits h).1.1, (near_fits h).1.2, near_may h⟩
theorem eight_zero : p8 0 = 0 ∧ q8 0 = 1 := by decide +kernel
theorem whole8 {n : Int} (h : Near (8 * n)) : p8 (8 * n) = n ∧ q8 (8 * n) = 1 := by
  have := low_same (V := 8 * n) (D := 8) (V' := n) (D' := 1) (by decide) (by decide) (by omega)
  have e := low_self (p := n) (q := 1) (by simp)
  exact ⟨this.1.trans e.1, this.2.trans e.2⟩
theorem add8 {X n : Int} (hX : Near X) (hn : May n) (h : Near (X + 8 * n)) : partN 1 (p8 X) (q8 X) n 1 = p8 (X + 8 * n) ∧ partD 1 (p8 X) (q8 X) n 1 = q8 (X + 8 * n) ∧ partE 1 (p8 X) (q8 X) n 1 = 0 := by
  have hb : Both (p8 X) (q8 X) n 1 := ⟨near_may hX, whole_may hn⟩
  unfold partN partD partE
  rw [if_pos hb, if_pos hb, if_pos hb]
  have h1 := cross8 X
  have h2 := (q8_in X).1
  have e := lowOk_same (V := p8 X * 1 + n * q8 X) (D := q8 X * 1 * 1) (V' := X + 8 * n) (D' := 8) (by omega) (by decide) (by
    rw [Int.mul_one, Int.mul_one, Int.mul_one, Int.add_mul, Int.add_mul, h1]
    congr 1
    rw [Int.mul_comm (n * q8 X) 8, ← Int.mul_assoc])
  rw [e.1, e.2.1, e.2.2]
  exact lowest8 h
theorem mid8 {X Y : Int} (hX : Near X) (hY : Near Y) (he : (X + Y) % 2 = 0) (h : Near ((X + Y) / 2)) : partN 2 (p8 X) (q8 X) (p8 Y) (q8 Y) = p8 ((X + Y) / 2) ∧ partD 2 (p8 X) (q8 X) (p8 Y) (q8 Y) = q8 ((X + Y) / 2) ∧ partE 2 (p8 X) (q8 X) (p8 Y) (q8 Y) = 0 := by
  have hb : Both (p8 X) (q8 X) (p8 Y) (q8 Y) := ⟨near_may hX, near_may hY⟩
  unfold partN partD partE
  rw [if_pos hb, if_pos hb, if_pos hb]
  have h1 := cross8 X
  have h2 := cross8 Y
  have h3 := dens_pos hb (k := 2) (by decide)
  have e := lowOk_same (V := p8 X * q8 Y + p8 Y * q8 X) (D := q8 X * q8 Y * 2) (V' := (X + Y) / 2) (D' := 8) h3 (by decide) (by
    generalize p8 X = p at *
    generalize q8 X = q at *
    generalize p8 Y = r at *
    generalize q8 Y = s at *
    have e1 : (p * s + r * q) * 8 = (p * 8) * s + (r * 8) * q := by
      rw [Int.add_mul]
      congr 1 <;> ac_rfl
    rw [e1, h1, h2]
    have e2 : X * q * s + Y * s * q = (X + Y) * (q * s) := by
      rw [Int.add_mul]
      congr 1 <;> ac_rfl
    rw [e2]
    obtain ⟨m, hm⟩ : ∃ m, X + Y = 2 * m := ⟨(X + Y) / 2, by omega⟩
    have e3 : (X + Y) / 2 = m := by omega
    rw [e3, hm]
    ac_rfl)
  rw [e.1, e.2.1, e.2.2]
  exact lowest8 h
theorem cmp8 {X Y : Int} (hX : Near X) (hY : Near Y) : cmpV (p8 X) (q8 X) (p8 Y) (q8 Y) = cmp0 X Y ∧ cmpE (p8 X) (q8 X) (p8 Y) (q8 Y) = 0 := by
  have hb : Both (p8 X) (q8 X) (p8 Y) (q8 Y) := ⟨near_may hX, near_may hY⟩
  obtain ⟨e1, e2⟩ := cmpV_is hb
  refine ⟨e1.trans ?_, e2⟩
  have h1 := cross8 X
  have h2 := cross8 Y
  have q1 := (q8_in X).1
  have q2 := (q8_in Y).1
  refine cmp0_scale (k := 8) (j := q8 X * q8 Y) (by decide) (Int.mul_pos (by omega) (by omega)) ?_
  generalize p8 X = p at *
  generalize q8 X = q at *
  generalize p8 Y = r at *
  generalize q8 Y = s at *
  have e3 : 8 * (p * s) = q * s * X := by
    rw [show 8 * (p * s) = p * 8 * s by ac_rfl, h1]; ac_rfl
  have e4 : 8 * (r * q) = q * s * Y := by
    rw [show 8 * (r * q) = r * 8 * q by ac_rfl, h2]; ac_rfl
  rw [e3, e4]

/-- an end, as a value. -/
def endV (s : Int) : Option Int → Value
  | none => .agg #[.bool false, .int .i64 0, .int .i64 0, .bool false]
  | some e => .agg #[.bool true, .int .i64 (p8 (s * (e / 2))), .int .i64 (q8 (s * (e / 2))), .bool (decide (e % 2 = 0))]

theorem whole_is (n : Int) (w : World) : Calls Try.prog 28 #[.int .i64 n] w fun e w' => e = .returned (.agg #[.int .i64 (n), .int .i64 (1)]) ∧ Below w.heap.size w w' := by
  go_enter Try.func28, Try.ntmps28
  go_wp2_with fail
  exact bodyPost_ret (v := .agg #[.int .i64 (n), .int .i64 (1)]) (by simp [results, Try.results28, go_sem]) rfl ⟨rfl, up1 _ _⟩

set_option maxHeartbeats 1000000 in
theorem plus_k (a b n P Q E : Int) (w : World) (a1 : -9223372036854775808 ≤ a) (a2 : a ≤ 9223372036854775807) (n1 : -9223372036854775808 ≤ n) (n2 : n ≤ 9223372036854775807) (eP : partN 1 a b n 1 = P) (eQ : partD 1 a b n 1 = Q) (eE : partE 1 a b n 1 = E) :
    Calls Try.prog 54 #[.agg #[.int .i64 (a), .int .i64 (b)], .int .i64 n] w fun e w' => e = .returned (.agg #[.int .i64 (P), .int .i64 (Q)]) ∧ Below w.heap.size w w' := by
  have HP := Lib.hid eP
  have HQ := Lib.hid eQ
  have HE := Lib.hid eE
  clear eP eQ eE
  have D0 := lies.on_alloc (lies.made w 36 #[.int .i64 a, .int .i64 b]) (.cells #[.int .i64 0, .int .i64 0] 36)
  have D1 := lies.made_at (w.alloc (.cells #[.int .i64 a, .int .i64 b] 36)) 36 #[.int .i64 0, .int .i64 0] (w.heap.size + 1) (World.size_alloc _ _)
  have DB := bound.up2 w (.cells #[.int .i64 a, .int .i64 b] 36) (.cells #[.int .i64 0, .int .i64 0] 36)
  go_enter Try.func54, Try.ntmps54
  go_upto_region 1 with fail
  generalize (w.alloc (.cells #[.int .i64 a, .int .i64 b] 36)).alloc (.cells #[.int .i64 0, .int .i64 0] 36) = w0 at D0 D1 DB ⊢
  go_cut [5] (fun s5 wx => ∃ g : Nat, s5 = .pointer (some ⟨g, 0, none⟩) ∧ lies.Lies wx g 36 #[.int .i64 P, .int .i64 Q] ∧ lies.Lies wx (w.heap.size + 1) 36 #[.int .i64 0, .int .i64 0] ∧ Below w.heap.size w wx)
  case first =>
    have S0 : ∀ W, Below w0.heap.size w0 W → W.cell? ⟨w.heap.size, 0, none⟩ = some (.int .i64 a) ∧ W.cell? ⟨w.heap.size, 1, none⟩ = some (.int .i64 b) := fun W hW => lies.pair (lies.on_call D0 hW)
    refine wp_region_held_drew (S := Below w0.heap.size w0) (by kernel_rfl) (dbm.drawn1 (Below.refl _ _)) (fun hHeld => ?_)
    refine wpAnyH_take (i := 0) (v := ?_) rfl (by kernel_rfl) (by kernel_rfl) (by kernel_rfl) (fun _ _ _ h => h) (Or.inl ⟨by rfl, ?_⟩) hHeld ?_
    rotate_left
    · intro w hSw; obtain ⟨s0, s1⟩ := S0 _ hSw; go_simp; try with_reducible rfl
    try simp only [Act.put, List.getElem_toArray, List.getElem_cons_zero, List.getElem_cons_succ, List.setIfInBounds_toArray, List.set_cons_zero, List.set_cons_succ]
    refine wpAnyH_take (i := 1) (v := ?_) rfl (by kernel_rfl) (by kernel_rfl) (by kernel_rfl) (fun _ _ _ h => h) (Or.inl ⟨by rfl, ?_⟩) hHeld ?_
    rotate_left
    · intro w hSw; obtain ⟨s0, s1⟩ := S0 _ hSw; go_simp; try with_reducible rfl
    try simp only [Act.put, List.getElem_toArray, List.getElem_cons_zero, List.getElem_cons_succ, List.setIfInBounds_toArray, List.set_cons_zero, List.set_cons_succ]
    refine wpAnyH_ready (rs := [2, 7]) (by kernel_rfl) (by simp) (AllReadyH.cons rfl (fun K hK => ?_) (AllReadyH.cons rfl (fun K hK => ?_) AllReadyH.nil))
    · go_simp
      refine (whole_is n _).mono ?_
      rintro e u1 ⟨rfl, hB⟩
      have B1 := hHeld.trans (hB.mono hHeld.size)
      refine hK.out _ _ B1 (fun hNew => ?_)
      clear hB
      clear hHeld hK K
      have hHeld := hNew
      clear hNew
      try simp only [Act.put, List.getElem_toArray, List.getElem_cons_zero, List.getElem_cons_succ, List.setIfInBounds_toArray, List.set_cons_zero, List.set_cons_succ]
      refine wpAnyH_ready (rs := [3, 7]) (by kernel_rfl) (by simp) (AllReadyH.cons rfl (fun K hK => ?_) (AllReadyH.cons rfl (fun K hK => ?_) AllReadyH.nil))
      · go_simp
        refine (add3_k a b n 1 P Q E _ a1 a2 n1 n2 HP.out HQ.out HE.out).mono ?_
        rintro e u2 ⟨rfl, hB⟩
        have B2 := hHeld.trans (hB.mono hHeld.size)
        refine hK.out _ _ B2 (fun hNew => ?_)
        clear hB
        clear hHeld hK K
        have hHeld := hNew
        clear hNew
        try simp only [Act.put, List.getElem_toArray, List.getElem_cons_zero, List.getElem_cons_succ, List.setIfInBounds_toArray, List.set_cons_zero, List.set_cons_succ]
        refine wpAnyH_take (i := 4) (v := ?_) rfl (by kernel_rfl) (by kernel_rfl) (by kernel_rfl) (fun _ _ _ h => h) (Or.inl ⟨by rfl, ?_⟩) hHeld ?_
        rotate_left
        · intro w hSw; skip; go_simp; try with_reducible rfl
        try simp only [Act.put, List.getElem_toArray, List.getElem_cons_zero, List.getElem_cons_succ, List.setIfInBounds_toArray, List.set_cons_zero, List.set_cons_succ]
        refine wpAnyH_take (i := 5) (v := ?_) rfl (by kernel_rfl) (by kernel_rfl) (by kernel_rfl) (fun _ _ _ h => h) (Or.inl ⟨by rfl, ?_⟩) hHeld ?_
        rotate_left
        · intro w hSw; skip; go_simp; try with_reducible rfl
        try simp only [Act.put, List.getElem_toArray, List.getElem_cons_zero, List.getElem_cons_succ, List.setIfInBounds_toArray, List.set_cons_zero, List.set_cons_succ]
        refine wpAnyH_take (i := 6) (v := ?_) rfl (by kernel_rfl) (by kernel_rfl) (by kernel_rfl) (fun _ _ _ h => h) (Or.inl ⟨by rfl, ?_⟩) hHeld ?_
        rotate_left
        · intro w hSw; skip; go_simp; try with_reducible rfl
        try simp only [Act.put, List.getElem_toArray, List.getElem_cons_zero, List.getElem_cons_succ, List.setIfInBounds_toArray, List.set_cons_zero, List.set_cons_succ]
        refine wpAnyH_ready (rs := [7]) (by kernel_rfl) (by simp) (AllReadyH.cons rfl (fun K hK => ?_) AllReadyH.nil)
        go_simp
        have G8 := lies.made u2 36 #[.int .i64 0, .int .i64 0]
        have hg := hHeld.size
        refine hK.out _ _ (hHeld.alloc hHeld.size _) (fun hNew => ?_)
        clear hHeld hK K
        have hHeld := hNew
        clear hNew
        try simp only [Act.put, List.getElem_toArray, List.getElem_cons_zero, List.getElem_cons_succ, List.setIfInBounds_toArray, List.set_cons_zero, List.set_cons_succ]
        generalize u2.heap.size = g at G8 hg ⊢
        generalize u2.alloc (.cells #[.int .i64 0, .int .i64 0] 36) = w8 at G8 hHeld ⊢
        have R8 := lies.on_call D1 hHeld
        have K8 := DB.trans (hHeld.mono DB.size)
        have hgw := lies.lt D1
        obtain ⟨x0, x1, x2, x3, x4⟩ := lies.two G8
        refine wpAnyH_ready (rs := [8]) (by kernel_rfl) (by simp) (AllReadyH.cons rfl (fun K hK => ?_) AllReadyH.nil)
        go_simp
        have G9 := lies.on_put (lies.on_put G8 0 (.int .i64 P)) 1 (.int .i64 Q)
        have R9 := lies.on_far (lies.on_far R8 (b := g) 0 (by omega) (.int .i64 P)) (b := g) 1 (by omega) (.int .i64 Q)
        have K9 := (K8.setCell (p := ⟨g, 0, none⟩) (by dsimp only; omega) (.int .i64 P)).setCell (p := ⟨g, 1, none⟩) (by simp; omega) (.int .i64 Q)
        refine hK.out _ _ ((hHeld.setCell (p := ⟨g, 0, none⟩) hg (.int .i64 P)).setCell (p := ⟨g, 1, none⟩) hg (.int .i64 Q)) (fun hNew => ?_)
        clear x0 x1 x2 x3 x4
        clear hHeld hK K
        have hHeld := hNew
        clear hNew
        try simp only [Act.put, List.getElem_toArray, List.getElem_cons_zero, List.getElem_cons_succ, List.setIfInBounds_toArray, List.set_cons_zero, List.set_cons_succ]
        refine wpAnyH_take (i := 9) (v := ?_) rfl (by kernel_rfl) (by kernel_rfl) (by kernel_rfl) (fun _ _ _ h => h) (Or.inl ⟨by rfl, ?_⟩) hHeld ?_
        rotate_left
        · intro w hSw; skip; go_simp; try with_reducible rfl
        try simp only [Act.put, List.getElem_toArray, List.getElem_cons_zero, List.getElem_cons_succ, List.setIfInBounds_toArray, List.set_cons_zero, List.set_cons_succ]
        refine wpAnyH_done (by kernel_rfl) ?_ _
        go_wp2_with fail
        go_meet
        exact ⟨_, rfl, G9, R9, K9⟩
      · go_simp
        have G8 := lies.made u1 36 #[.int .i64 0, .int .i64 0]
        have hg := hHeld.size
        refine hK.out _ _ (hHeld.alloc hHeld.size _) (fun hNew => ?_)
        clear hHeld hK K
        have hHeld := hNew
        clear hNew
        try simp only [Act.put, List.getElem_toArray, List.getElem_cons_zero, List.getElem_cons_succ, List.setIfInBounds_toArray, List.set_cons_zero, List.set_cons_succ]
        generalize u1.heap.size = g at G8 hg ⊢
        generalize u1.alloc (.cells #[.int .i64 0, .int .i64 0] 36) = w8 at G8 hHeld ⊢
        refine wpAnyH_ready (rs := [3]) (by kernel_rfl) (by simp) (AllReadyH.cons rfl (fun K hK => ?_) AllReadyH.nil)
        go_simp
        refine (add3_k a b n 1 P Q E _ a1 a2 n1 n2 HP.out HQ.out HE.out).mono ?_
        rintro e u2 ⟨rfl, hB⟩
        have B2 := hHeld.trans (hB.mono hHeld.size)
        replace G8 := lies.on_call G8 hB
        refine hK.out _ _ B2 (fun hNew => ?_)
        clear hB
        clear hHeld hK K
        have hHeld := hNew
        clear hNew
        try simp only [Act.put, List.getElem_toArray, List.getElem_cons_zero, List.getElem_cons_succ, List.setIfInBounds_toArray, List.set_cons_zero, List.set_cons_succ]
        refine wpAnyH_take (i := 4) (v := ?_) rfl (by kernel_rfl) (by kernel_rfl) (by kernel_rfl) (fun _ _ _ h => h) (Or.inl ⟨by rfl, ?_⟩) hHeld ?_
        rotate_left
        · intro w hSw; skip; go_simp; try with_reducible rfl
        try simp only [Act.put, List.getElem_toArray, List.getElem_cons_zero, List.getElem_cons_succ, List.setIfInBounds_toArray, List.set_cons_zero, List.set_cons_succ]
        refine wpAnyH_take (i := 5) (v := ?_) rfl (by kernel_rfl) (by kernel_rfl) (by kernel_rfl) (fun _ _ _ h => h) (Or.inl ⟨by rfl, ?_⟩) hHeld ?_
        rotate_left
        · intro w hSw; skip; go_simp; try with_reducible rfl
        try simp only [Act.put, List.getElem_toArray, List.getElem_cons_zero, List.getElem_cons_succ, List.setIfInBounds_toArray, List.set_cons_zero, List.set_cons_succ]
        refine wpAnyH_take (i := 6) (v := ?_) rfl (by kernel_rfl) (by kernel_rfl) (by kernel_rfl) (fun _ _ _ h => h) (Or.inl ⟨by rfl, ?_⟩) hHeld ?_
        rotate_left
        · intro w hSw; skip; go_simp; try with_reducible rfl
        try simp only [Act.put, List.getElem_toArray, List.getElem_cons_zero, List.getElem_cons_succ, List.setIfInBounds_toArray, List.set_cons_zero, List.set_cons_succ]
        have R8 := lies.on_call D1 hHeld
        have K8 := DB.trans (hHeld.mono DB.size)
        have hgw := lies.lt D1
        obtain ⟨x0, x1, x2, x3, x4⟩ := lies.two G8
        refine wpAnyH_ready (rs := [8]) (by kernel_rfl) (by simp) (AllReadyH.cons rfl (fun K hK => ?_) AllReadyH.nil)
        go_simp
        have G9 := lies.on_put (lies.on_put G8 0 (.int .i64 P)) 1 (.int .i64 Q)
        have R9 := lies.on_far (lies.on_far R8 (b := g) 0 (by omega) (.int .i64 P)) (b := g) 1 (by omega) (.int .i64 Q)
        have K9 := (K8.setCell (p := ⟨g, 0, none⟩) (by dsimp only; omega) (.int .i64 P)).setCell (p := ⟨g, 1, none⟩) (by simp; omega) (.int .i64 Q)
        refine hK.out _ _ ((hHeld.setCell (p := ⟨g, 0, none⟩) hg (.int .i64 P)).setCell (p := ⟨g, 1, none⟩) hg (.int .i64 Q)) (fun hNew => ?_)
        clear x0 x1 x2 x3 x4
        clear hHeld hK K
        have hHeld := hNew
        clear hNew
        try simp only [Act.put, List.getElem_toArray, List.getElem_cons_zero, List.getElem_cons_succ, List.setIfInBounds_toArray, List.set_cons_zero, List.set_cons_succ]
        refine wpAnyH_take (i := 9) (v := ?_) rfl (by kernel_rfl) (by kernel_rfl) (by kernel_rfl) (fun _ _ _ h => h) (Or.inl ⟨by rfl, ?_⟩) hHeld ?_
        rotate_left
        · intro w hSw; skip; go_simp; try with_reducible rfl
        try simp only [Act.put, List.getElem_toArray, List.getElem_cons_zero, List.getElem_cons_succ, List.setIfInBounds_toArray, List.set_cons_zero, List.set_cons_succ]
        refine wpAnyH_done (by kernel_rfl) ?_ _
        go_wp2_with fail
        go_meet
        exact ⟨_, rfl, G9, R9, K9⟩
    · go_simp
      have G8 : lies.Lies (w0.alloc (.cells #[.int .i64 0, .int .i64 0] 36)).drew w0.heap.size 36 #[.int .i64 0, .int .i64 0] := lies.made w0 36 #[.int .i64 0, .int .i64 0]
      have hg := Nat.le_refl w0.heap.size
      have hN : Below w0.heap.size w0 (w0.alloc (.cells #[.int .i64 0, .int .i64 0] 36)).drew := lies.frame_drew (bound.up1 w0 (.cells #[.int .i64 0, .int .i64 0] 36))
      refine hK.out _ _ hN (fun hNew => ?_)
      clear hHeld hK K
      have hHeld := hNew
      clear hNew
      try simp only [Act.put, List.getElem_toArray, List.getElem_cons_zero, List.getElem_cons_succ, List.setIfInBounds_toArray, List.set_cons_zero, List.set_cons_succ]
      generalize hgg : w0.heap.size = g at G8 hg ⊢
      generalize (w0.alloc (.cells #[.int .i64 0, .int .i64 0] 36)).drew = u1 at G8 hHeld hN ⊢
      subst hgg
      refine wpAnyH_ready (rs := [2]) (by kernel_rfl) (by simp) (AllReadyH.cons rfl (fun K hK => ?_) AllReadyH.nil)
      go_simp
      refine (whole_is n _).mono ?_
      rintro e u2 ⟨rfl, hB⟩
      have B1 := hHeld.trans (hB.mono hHeld.size)
      replace G8 := lies.on_call G8 hB
      refine hK.out _ _ B1 (fun hNew => ?_)
      clear hB
      clear hHeld hK K
      have hHeld := hNew
      clear hNew
      try simp only [Act.put, List.getElem_toArray, List.getElem_cons_zero, List.getElem_cons_succ, List.setIfInBounds_toArray, List.set_cons_zero, List.set_cons_succ]
      refine wpAnyH_ready (rs := [3]) (by kernel_rfl) (by simp) (AllReadyH.cons rfl (fun K hK => ?_) AllReadyH.nil)
      go_simp
      refine (add3_k a b n 1 P Q E _ a1 a2 n1 n2 HP.out HQ.out HE.out).mono ?_
      rintro e u3 ⟨rfl, hB⟩
      have B2 := hHeld.trans (hB.mono hHeld.size)
      replace G8 := lies.on_call G8 hB
      refine hK.out _ _ B2 (fun hNew => ?_)
      clear hB
      clear hHeld hK K
      have hHeld := hNew
      clear hNew
      try simp only [Act.put, List.getElem_toArray, List.getElem_cons_zero, List.getElem_cons_succ, List.setIfInBounds_toArray, List.set_cons_zero, List.set_cons_succ]
      refine wpAnyH_take (i := 4) (v := ?_) rfl (by kernel_rfl) (by kernel_rfl) (by kernel_rfl) (fun _ _ _ h => h) (Or.inl ⟨by rfl, ?_⟩) hHeld ?_
      rotate_left
      · intro w hSw; skip; go_simp; try with_reducible rfl
      try simp only [Act.put, List.getElem_toArray, List.getElem_cons_zero, List.getElem_cons_succ, List.setIfInBounds_toArray, List.set_cons_zero, List.set_cons_succ]
      refine wpAnyH_take (i := 5) (v := ?_) rfl (by kernel_rfl) (by kernel_rfl) (by kernel_rfl) (fun _ _ _ h => h) (Or.inl ⟨by rfl, ?_⟩) hHeld ?_
      rotate_left
      · intro w hSw; skip; go_simp; try with_reducible rfl
      try simp only [Act.put, List.getElem_toArray, List.getElem_cons_zero, List.getElem_cons_succ, List.setIfInBounds_toArray, List.set_cons_zero, List.set_cons_succ]
      refine wpAnyH_take (i := 6) (v := ?_) rfl (by kernel_rfl) (by kernel_rfl) (by kernel_rfl) (fun _ _ _ h => h) (Or.inl ⟨by rfl, ?_⟩) hHeld ?_
      rotate_left
      · intro w hSw; skip; go_simp; try with_reducible rfl
      try simp only [Act.put, List.getElem_toArray, List.getElem_cons_zero, List.getElem_cons_succ, List.setIfInBounds_toArray, List.set_cons_zero, List.set_cons_succ]
      generalize hgg : w0.heap.size = g at G8 hg ⊢
      subst hgg
      have R8 := lies.on_call D1 hHeld
      have K8 := DB.trans (hHeld.mono DB.size)
      have hgw := lies.lt D1
      obtain ⟨x0, x1, x2, x3, x4⟩ := lies.two G8
      refine wpAnyH_ready (rs := [8]) (by kernel_rfl) (by simp) (AllReadyH.cons rfl (fun K hK => ?_) AllReadyH.nil)
      go_simp
      have G9 := lies.on_put (lies.on_put G8 0 (.int .i64 P)) 1 (.int .i64 Q)
      have R9 := lies.on_far (lies.on_far R8 (b := w0.heap.size) 0 (by omega) (.int .i64 P)) (b := w0.heap.size) 1 (by omega) (.int .i64 Q)
      have K9 := (K8.setCell (p := ⟨w0.heap.size, 0, none⟩) (by dsimp only; omega) (.int .i64 P)).setCell (p := ⟨w0.heap.size, 1, none⟩) (by simp; omega) (.int .i64 Q)
      refine hK.out _ _ ((hHeld.setCell (p := ⟨w0.heap.size, 0, none⟩) hg (.int .i64 P)).setCell (p := ⟨w0.heap.size, 1, none⟩) hg (.int .i64 Q)) (fun hNew => ?_)
      clear x0 x1 x2 x3 x4
      clear hHeld hK K
      have hHeld := hNew
      clear hNew
      try simp only [Act.put, List.getElem_toArray, List.getElem_cons_zero, List.getElem_cons_succ, List.setIfInBounds_toArray, List.set_cons_zero, List.set_cons_succ]
      refine wpAnyH_take (i := 9) (v := ?_) rfl (by kernel_rfl) (by kernel_rfl) (by kernel_rfl) (fun _ _ _ h => h) (Or.inl ⟨by rfl, ?_⟩) hHeld ?_
      rotate_left
      · intro w hSw; skip; go_simp; try with_reducible rfl
      try simp only [Act.put, List.getElem_toArray, List.getElem_cons_zero, List.getElem_cons_succ, List.setIfInBounds_toArray, List.set_cons_zero, List.set_cons_succ]
      refine wpAnyH_done (by kernel_rfl) ?_ _
      go_wp2_with fail
      go_meet
      exact ⟨_, rfl, G9, R9, K9⟩
  case rest =>
    obtain ⟨g, rfl, hg, hr, hB⟩ := hcut
    obtain ⟨x0, x1, x2, x3, x4⟩ := lies.two hg
    obtain ⟨y0, y1, y2, y3, y4⟩ := lies.two hr
    go_wp2_with fail
    exact bodyPost_ret (v := .agg #[.int .i64 (P), .int .i64 (Q)]) (by simp [results, Try.results54, go_sem, y0, y1]) rfl ⟨rfl, (hB.setCell (by simp) _).setCell (by simp) _⟩

theorem plus_is {X n : Int} (w : World) (hX : Near X) (hn : May n) (h : Near (X + 8 * n)) :
    Calls Try.prog 54 #[.agg #[.int .i64 (p8 X), .int .i64 (q8 X)], .int .i64 n] w fun e w' => e = .returned (.agg #[.int .i64 (p8 (X + 8 * n)), .int .i64 (q8 (X + 8 * n))]) ∧ Below w.heap.size w w' := by
  obtain ⟨e1, e2, e3⟩ := add8 hX hn h
  have := near_fits hX
  exact plus_k (p8 X) (q8 X) n _ _ _ w this.1.1 this.1.2 (by have := hn.1; omega) (by have := hn.2; omega) e1 e2 e3

/-! the lesser of two ends -/
theorem four {W : World} {g : Nat} {t : TypeId} {a b c d : Value} (h : lies.Lies W g t #[a, b, c, d]) : W.cell? ⟨g, 0, none⟩ = some a ∧ W.cell? ⟨g, 1, none⟩ = some b ∧ W.cell? ⟨g, 2, none⟩ = some c ∧ W.cell? ⟨g, 3, none⟩ = some d ∧ g < W.heap.size :=
  ⟨lies.cell h 0, lies.cell h 1, lies.cell h 2, lies.cell h 3, lies.lt h⟩
theorem fourF {W : World} {g : Nat} {t : TypeId} {a b c d : Value} (h : lies.Lies W g t #[a, b, c, d]) : W.frozen? ⟨g, 0, none⟩ = false ∧ W.frozen? ⟨g, 1, none⟩ = false ∧ W.frozen? ⟨g, 2, none⟩ = false ∧ W.frozen? ⟨g, 3, none⟩ = false :=
  ⟨lies.free h 0, lies.free h 1, lies.free h 2, lies.free h 3⟩
theorem set4 {n : Nat} {w W : World} (h : Below n w W) {g : Nat} (hg : n ≤ g) (a b c d : Value) : Below n w ((((W.setCell ⟨g, 0, none⟩ a).setCell ⟨g, 1, none⟩ b).setCell ⟨g, 2, none⟩ c).setCell ⟨g, 3, none⟩ d) :=
  (((h.setCell (p := ⟨g, 0, none⟩) hg a).setCell (p := ⟨g, 1, none⟩) hg b).setCell (p := ⟨g, 2, none⟩) hg c).setCell (p := ⟨g, 3, none⟩) hg d
theorem or_no (a b c d : Int) (s : Bool) (u t : Bool) (k : Int) (w : World) :
    Calls Try.prog 53 #[.agg #[.bool false, .int .i64 a, .int .i64 b, .bool s], .agg #[.bool u, .int .i64 c, .int .i64 d, .bool t], .int .i64 k] w fun e w' => e = .returned (.agg #[.bool u, .int .i64 c, .int .i64 d, .bool t]) ∧ Below w.heap.size w w' := by
  go_enter Try.func53, Try.ntmps53
  go_wp2_with fail
  exact bodyPost_ret (v := .agg #[.bool u, .int .i64 c, .int .i64 d, .bool t]) (by simp [results, Try.results53, go_sem]) rfl ⟨rfl, bound.up3 _ _ _ _⟩
set_option maxHeartbeats 1000000 in
theorem or_k (a b c d o z : Int) (s t : Bool) (k : Int) (w : World) (a1 : -9223372036854775808 ≤ a) (a2 : a ≤ 9223372036854775807) (c1 : -9223372036854775808 ≤ c) (c2 : c ≤ 9223372036854775807) (ho : cmpV a b c d = o) (oz : IntKind.i64.wrap (o * k) = z) (hz : z = -1 ∨ z = 1 ∨ z = 0) :
    Calls Try.prog 53 #[.agg #[.bool true, .int .i64 a, .int .i64 b, .bool s], .agg #[.bool true, .int .i64 c, .int .i64 d, .bool t], .int .i64 k] w fun e w' => e = .returned (if z = -1 then .agg #[.bool true, .int .i64 a, .int .i64 b, .bool s] else if z = 1 then .agg #[.bool true, .int .i64 c, .int .i64 d, .bool t] else .agg #[.bool true, .int .i64 a, .int .i64 b, .bool (s || t)]) ∧ Below w.heap.size w w' := by
  have HO := Lib.hid ho
  have DB := bound.up3 w (.cells #[.bool true, .int .i64 a, .int .i64 b, .bool s] 57) (.cells #[.bool true, .int .i64 c, .int .i64 d, .bool t] 57) (.cells #[.bool false, .int .i64 0, .int .i64 0, .bool false] 57)
  have D0 := lies.on_alloc (lies.on_alloc (lies.made w 57 #[.bool true, .int .i64 a, .int .i64 b, .bool s]) (.cells #[.bool true, .int .i64 c, .int .i64 d, .bool t] 57)) (.cells #[.bool false, .int .i64 0, .int .i64 0, .bool false] 57)
  have D1 := lies.on_alloc (lies.made_at (w.alloc (.cells #[.bool true, .int .i64 a, .int .i64 b, .bool s] 57)) 57 #[.bool true, .int .i64 c, .int .i64 d, .bool t] (w.heap.size + 1) (World.size_alloc _ _)) (.cells #[.bool false, .int .i64 0, .int .i64 0, .bool false] 57)
  have D2 := lies.made_at ((w.alloc (.cells #[.bool true, .int .i64 a, .int .i64 b, .bool s] 57)).alloc (.cells #[.bool true, .int .i64 c, .int .i64 d, .bool t] 57)) 57 #[.bool false, .int .i64 0, .int .i64 0, .bool false] (w.heap.size + 1 + 1) (by simp)
  clear ho
  go_enter Try.func53, Try.ntmps53
  go_wp2_with fail
  generalize ((w.alloc (.cells #[.bool true, .int .i64 a, .int .i64 b, .bool s] 57)).alloc (.cells #[.bool true, .int .i64 c, .int .i64 d, .bool t] 57)).alloc (.cells #[.bool false, .int .i64 0, .int .i64 0, .bool false] 57) = w0 at D0 D1 D2 DB ⊢
  refine (cmp3_any a b c d w0 a1 a2 c1 c2).mono ?_
  rintro e w1 ⟨rfl, hB⟩
  rw [HO.out]
  replace D0 := lies.on_call D0 hB
  replace D1 := lies.on_call D1 hB
  replace D2 := lies.on_call D2 hB
  replace DB := later DB hB
  clear hB HO
  obtain ⟨x0, x1, x2, x3, x4⟩ := four D0
  obtain ⟨y0, y1, y2, y3, y4⟩ := four D1
  obtain ⟨v0, v1, v2, v3, v4⟩ := four D2
  obtain ⟨f0, f1, f2, f3⟩ := fourF D2
  rcases hz with rfl | rfl | rfl
  · go_wp2_with fail
    exact bodyPost_ret (v := .agg #[.bool true, .int .i64 a, .int .i64 b, .bool s]) (by simp [results, Try.results53, go_sem, v0, v1, v2, v3]) rfl ⟨by simp, set4 DB (by omega) _ _ _ _⟩
  · go_wp2_with fail
    exact bodyPost_ret (v := .agg #[.bool true, .int .i64 c, .int .i64 d, .bool t]) (by simp [results, Try.results53, go_sem, v0, v1, v2, v3]) rfl ⟨by simp, set4 DB (by omega) _ _ _ _⟩
  · cases s
    · cases t
      · go_wp2_with fail
        exact bodyPost_ret (v := .agg #[.bool true, .int .i64 a, .int .i64 b, .bool false]) (by simp [results, Try.results53, go_sem, v0, v1, v2, v3]) rfl ⟨by simp, set4 DB (by omega) _ _ _ _⟩
      · go_wp2_with fail
        exact bodyPost_ret (v := .agg #[.bool true, .int .i64 a, .int .i64 b, .bool true]) (by simp [results, Try.results53, go_sem, v0, v1, v2, v3]) rfl ⟨by simp, set4 DB (by omega) _ _ _ _⟩
    · go_wp2_with fail
      exact bodyPost_ret (v := .agg #[.bool true, .int .i64 a, .int .i64 b, .bool true]) (by simp [results, Try.results53, go_sem, v0, v1, v2, v3]) rfl ⟨by simp, set4 DB (by omega) _ _ _ _⟩

/-- of ends of eighths. -/
def NearE (s : Int) : Option Int → Prop
  | none => True
  | some e => Near (s * (e / 2))
theorem or_is {s : Int} (hs : s = 1 ∨ s = -1) (x : Option Int) (b : Int) (hx : NearE s x) (hb : NearE s (some b)) (w : World) :
    Calls Try.prog 53 #[endV s x, endV s (some b), .int .i64 s] w fun e w' => e = .returned (endV s (mnE x (some b))) ∧ Below w.heap.size w w' := by
  cases x with
  | none => exact or_no 0 0 _ _ false true _ s w
  | some a =>
    have ha : Near (s * (a / 2)) := hx
    have hb' : Near (s * (b / 2)) := hb
    obtain ⟨e1, e2⟩ := cmp8 ha hb'
    obtain ⟨a1, a2⟩ := near_fits ha
    have hz : ∃ z, IntKind.i64.wrap (cmp0 (s * (a / 2)) (s * (b / 2)) * s) = z ∧ ((z = -1 ∧ a / 2 < b / 2) ∨ (z = 1 ∧ b / 2 < a / 2) ∨ (z = 0 ∧ a / 2 = b / 2)) := by
      rcases hs with rfl | rfl
      · rcases cmp0_cases (1 * (a / 2)) (1 * (b / 2)) with ⟨h, e⟩ | ⟨h, e⟩ | ⟨h, e⟩ <;> rw [e]
        · exact ⟨1, by decide, .inr (.inl ⟨rfl, by omega⟩)⟩
        · exact ⟨-1, by decide, .inl ⟨rfl, by omega⟩⟩
        · exact ⟨0, by decide, .inr (.inr ⟨rfl, by omega⟩)⟩
      · rcases cmp0_cases (-1 * (a / 2)) (-1 * (b / 2)) with ⟨h, e⟩ | ⟨h, e⟩ | ⟨h, e⟩ <;> rw [e]
        · exact ⟨-1, by decide, .inl ⟨rfl, by omega⟩⟩
        · exact ⟨1, by decide, .inr (.inl ⟨rfl, by omega⟩)⟩
        · exact ⟨0, by decide, .inr (.inr ⟨rfl, by omega⟩)⟩
    obtain ⟨z, hz, hc⟩ := hz
    obtain ⟨b1, b2⟩ := near_fits hb'
    refine (or_k (p8 (s * (a / 2))) (q8 (s * (a / 2))) (p8 (s * (b / 2))) (q8 (s * (b / 2))) _ z (decide (a % 2 = 0)) (decide (b % 2 = 0)) s w a1.1 a1.2 b1.1 b1.2 e1 hz (by rcases hc with h | h | h <;> simp [h.1])).mono ?_
    rintro e w' ⟨rfl, hB⟩
    refine ⟨?_, hB⟩
    congr 1
    show _ = endV s (some (min a b))
    rcases hc with ⟨rfl, h⟩ | ⟨rfl, h⟩ | ⟨rfl, h⟩
    · rw [if_pos rfl, show min a b = a by omega]; rfl
    · rw [if_neg (by decide), if_pos rfl, show min a b = b by omega]; rfl
    · rw [if_neg (by decide), if_neg (by decide)]
      dsimp only [endV]
      have h1 : min a b / 2 = a / 2 := by omega
      have h2 : (decide (a % 2 = 0) || decide (b % 2 = 0)) = decide (min a b % 2 = 0) := by
        by_cases p : a % 2 = 0 <;> by_cases q : b % 2 = 0 <;> simp [p, q] <;> omega
      rw [h1, h2]

/-! the time between two ends -/
theorem bt_low (a b c d : Int) (w : World) (j u : Bool) :
    Calls Try.prog 30 #[.agg #[.bool true, .int .i64 a, .int .i64 b, .bool false], .agg #[.bool j, .int .i64 c, .int .i64 d, .bool u]] w fun e w' => e = .returned (.agg #[.int .i64 (a), .int .i64 (b)]) ∧ Below w.heap.size w w' := by
  go_enter Try.func30, Try.ntmps30
  go_wp2_with fail
  exact bodyPost_ret (v := .agg #[.int .i64 (a), .int .i64 (b)]) (by simp [results, Try.results30, go_sem]) rfl ⟨rfl, bound.up3 _ _ _ _⟩
theorem bt_high1 (a b c d : Int) (w : World) (s : Bool) :
    Calls Try.prog 30 #[.agg #[.bool false, .int .i64 a, .int .i64 b, .bool s], .agg #[.bool true, .int .i64 c, .int .i64 d, .bool false]] w fun e w' => e = .returned (.agg #[.int .i64 (c), .int .i64 (d)]) ∧ Below w.heap.size w w' := by
  go_enter Try.func30, Try.ntmps30
  go_wp2_with fail
  exact bodyPost_ret (v := .agg #[.int .i64 (c), .int .i64 (d)]) (by simp [results, Try.results30, go_sem]) rfl ⟨rfl, bound.up3 _ _ _ _⟩
theorem bt_high2 (a b c d : Int) (w : World) :
    Calls Try.prog 30 #[.agg #[.bool true, .int .i64 a, .int .i64 b, .bool true], .agg #[.bool true, .int .i64 c, .int .i64 d, .bool false]] w fun e w' => e = .returned (.agg #[.int .i64 (c), .int .i64 (d)]) ∧ Below w.heap.size w w' := by
  go_enter Try.func30, Try.ntmps30
  go_wp2_with fail
  exact bodyPost_ret (v := .agg #[.int .i64 (c), .int .i64 (d)]) (by simp [results, Try.results30, go_sem]) rfl ⟨rfl, bound.up3 _ _ _ _⟩
set_option maxHeartbeats 1000000 in
theorem bt_mid (a b c d : Int) (w : World) (a1 : -9223372036854775808 ≤ a) (a2 : a ≤ 9223372036854775807) (c1 : -9223372036854775808 ≤ c) (c2 : c ≤ 9223372036854775807) (P Q E : Int) (eP : partN 2 a b c d = P) (eQ : partD 2 a b c d = Q) (eE : partE 2 a b c d = E) :
    Calls Try.prog 30 #[.agg #[.bool true, .int .i64 a, .int .i64 b, .bool true], .agg #[.bool true, .int .i64 c, .int .i64 d, .bool true]] w fun e w' => e = .returned (.agg #[.int .i64 (P), .int .i64 (Q)]) ∧ Below w.heap.size w w' := by
  have DB := bound.up3 w (.cells #[.bool true, .int .i64 a, .int .i64 b, .bool true] 57) (.cells #[.bool true, .int .i64 c, .int .i64 d, .bool true] 57) (.cells #[.int .i64 0, .int .i64 0] 36)
  have D0 := lies.on_alloc (lies.on_alloc (lies.made w 57 #[.bool true, .int .i64 a, .int .i64 b, .bool true]) (.cells #[.bool true, .int .i64 c, .int .i64 d, .bool true] 57)) (.cells #[.int .i64 0, .int .i64 0] 36)
  have D1 := lies.on_alloc (lies.made_at (w.alloc (.cells #[.bool true, .int .i64 a, .int .i64 b, .bool true] 57)) 57 #[.bool true, .int .i64 c, .int .i64 d, .bool true] (w.heap.size + 1) (World.size_alloc _ _)) (.cells #[.int .i64 0, .int .i64 0] 36)
  have D2 := lies.made_at ((w.alloc (.cells #[.bool true, .int .i64 a, .int .i64 b, .bool true] 57)).alloc (.cells #[.bool true, .int .i64 c, .int .i64 d, .bool true] 57)) 36 #[.int .i64 0, .int .i64 0] (w.heap.size + 1 + 1) (by simp)
  go_enter Try.func30, Try.ntmps30
  obtain ⟨x0, x1, x2, x3, x4⟩ := four D0
  obtain ⟨y0, y1, y2, y3, y4⟩ := four D1
  go_wp2_with fail
  clear x0 x1 x2 x3 x4 y0 y1 y2 y3 y4
  generalize ((w.alloc (.cells #[.bool true, .int .i64 a, .int .i64 b, .bool true] 57)).alloc (.cells #[.bool true, .int .i64 c, .int .i64 d, .bool true] 57)).alloc (.cells #[.int .i64 0, .int .i64 0] 36) = w0 at D0 D1 D2 DB ⊢
  refine (mid3_k a b c d P Q E _ a1 a2 c1 c2 eP eQ eE).mono ?_
  rintro e w1 ⟨rfl, hB⟩
  replace D2 := lies.on_call D2 hB
  replace DB := later DB hB
  clear hB D0 D1
  obtain ⟨y0, y1, y2, y3, y4⟩ := lies.two D2
  go_wp2_with fail
  refine bodyPost_ret (v := .agg #[.int .i64 (P), .int .i64 (Q)]) (by simp [results, Try.results30, go_sem, y0, y1, y4, Nat.ne_of_lt y4, Nat.ne_of_gt y4]) rfl ⟨rfl, ?_⟩
  repeat (first | with_reducible exact DB | with_reducible refine lies.frame_up ?_ _ | with_reducible refine Below.setCell ?_ (by dsimp only; omega) _)
set_option maxHeartbeats 1000000 in
theorem bt_lo (a b c d : Int) (w : World) (u : Bool) (a1 : -9223372036854775808 ≤ a) (a2 : a ≤ 9223372036854775807) (P Q E : Int) (eP : partN 1 a b 1 1 = P) (eQ : partD 1 a b 1 1 = Q) (eE : partE 1 a b 1 1 = E) :
    Calls Try.prog 30 #[.agg #[.bool true, .int .i64 a, .int .i64 b, .bool true], .agg #[.bool false, .int .i64 c, .int .i64 d, .bool u]] w fun e w' => e = .returned (.agg #[.int .i64 (P), .int .i64 (Q)]) ∧ Below w.heap.size w w' := by
  have DB := bound.up3 w (.cells #[.bool true, .int .i64 a, .int .i64 b, .bool true] 57) (.cells #[.bool false, .int .i64 c, .int .i64 d, .bool u] 57) (.cells #[.int .i64 0, .int .i64 0] 36)
  have D0 := lies.on_alloc (lies.on_alloc (lies.made w 57 #[.bool true, .int .i64 a, .int .i64 b, .bool true]) (.cells #[.bool false, .int .i64 c, .int .i64 d, .bool u] 57)) (.cells #[.int .i64 0, .int .i64 0] 36)
  have D1 := lies.on_alloc (lies.made_at (w.alloc (.cells #[.bool true, .int .i64 a, .int .i64 b, .bool true] 57)) 57 #[.bool false, .int .i64 c, .int .i64 d, .bool u] (w.heap.size + 1) (World.size_alloc _ _)) (.cells #[.int .i64 0, .int .i64 0] 36)
  have D2 := lies.made_at ((w.alloc (.cells #[.bool true, .int .i64 a, .int .i64 b, .bool true] 57)).alloc (.cells #[.bool false, .int .i64 c, .int .i64 d, .bool u] 57)) 36 #[.int .i64 0, .int .i64 0] (w.heap.size + 1 + 1) (by simp)
  go_enter Try.func30, Try.ntmps30
  obtain ⟨x0, x1, x2, x3, x4⟩ := four D0
  obtain ⟨y0, y1, y2, y3, y4⟩ := four D1
  go_wp2_with fail
  clear x0 x1 x2 x3 x4 y0 y1 y2 y3 y4
  generalize ((w.alloc (.cells #[.bool true, .int .i64 a, .int .i64 b, .bool true] 57)).alloc (.cells #[.bool false, .int .i64 c, .int .i64 d, .bool u] 57)).alloc (.cells #[.int .i64 0, .int .i64 0] 36) = w0 at D0 D1 D2 DB ⊢
  refine (plus_k a b 1 P Q E _ a1 a2 (by decide) (by decide) eP eQ eE).mono ?_
  rintro e w1 ⟨rfl, hB⟩
  replace D2 := lies.on_call D2 hB
  replace DB := later DB hB
  clear hB D0 D1
  obtain ⟨y0, y1, y2, y3, y4⟩ := lies.two D2
  go_wp2_with fail
  refine bodyPost_ret (v := .agg #[.int .i64 (P), .int .i64 (Q)]) (by simp [results, Try.results30, go_sem, y0, y1, y4, Nat.ne_of_lt y4, Nat.ne_of_gt y4]) rfl ⟨rfl, ?_⟩
  repeat (first | with_reducible exact DB | with_reducible refine lies.frame_up ?_ _ | with_reducible refine Below.setCell ?_ (by dsimp only; omega) _)
set_option maxHeartbeats 1000000 in
theorem bt_hi (a b c d : Int) (w : World) (s : Bool) (c1 : -9223372036854775808 ≤ c) (c2 : c ≤ 9223372036854775807) (P Q E : Int) (eP : partN 1 c d (-1) 1 = P) (eQ : partD 1 c d (-1) 1 = Q) (eE : partE 1 c d (-1) 1 = E) :
    Calls Try.prog 30 #[.agg #[.bool false, .int .i64 a, .int .i64 b, .bool s], .agg #[.bool true, .int .i64 c, .int .i64 d, .bool true]] w fun e w' => e = .returned (.agg #[.int .i64 (P), .int .i64 (Q)]) ∧ Below w.heap.size w w' := by
  have DB := bound.up3 w (.cells #[.bool false, .int .i64 a, .int .i64 b, .bool s] 57) (.cells #[.bool true, .int .i64 c, .int .i64 d, .bool true] 57) (.cells #[.int .i64 0, .int .i64 0] 36)
  have D0 := lies.on_alloc (lies.on_alloc (lies.made w 57 #[.bool false, .int .i64 a, .int .i64 b, .bool s]) (.cells #[.bool true, .int .i64 c, .int .i64 d, .bool true] 57)) (.cells #[.int .i64 0, .int .i64 0] 36)
  have D1 := lies.on_alloc (lies.made_at (w.alloc (.cells #[.bool false, .int .i64 a, .int .i64 b, .bool s] 57)) 57 #[.bool true, .int .i64 c, .int .i64 d, .bool true] (w.heap.size + 1) (World.size_alloc _ _)) (.cells #[.int .i64 0, .int .i64 0] 36)
  have D2 := lies.made_at ((w.alloc (.cells #[.bool false, .int .i64 a, .int .i64 b, .bool s] 57)).alloc (.cells #[.bool true, .int .i64 c, .int .i64 d, .bool true] 57)) 36 #[.int .i64 0, .int .i64 0] (w.heap.size + 1 + 1) (by simp)
  go_enter Try.func30, Try.ntmps30
  obtain ⟨x0, x1, x2, x3, x4⟩ := four D0
  obtain ⟨y0, y1, y2, y3, y4⟩ := four D1
  go_wp2_with fail
  clear x0 x1 x2 x3 x4 y0 y1 y2 y3 y4
  generalize ((w.alloc (.cells #[.bool false, .int .i64 a, .int .i64 b, .bool s] 57)).alloc (.cells #[.bool true, .int .i64 c, .int .i64 d, .bool true] 57)).alloc (.cells #[.int .i64 0, .int .i64 0] 36) = w0 at D0 D1 D2 DB ⊢
  refine (plus_k c d (-1) P Q E _ c1 c2 (by decide) (by decide) eP eQ eE).mono ?_
  rintro e w1 ⟨rfl, hB⟩
  replace D2 := lies.on_call D2 hB
  replace DB := later DB hB
  clear hB D0 D1
  obtain ⟨y0, y1, y2, y3, y4⟩ := lies.two D2
  go_wp2_with fail
  refine bodyPost_ret (v := .agg #[.int .i64 (P), .int .i64 (Q)]) (by simp [results, Try.results30, go_sem, y0, y1, y4, Nat.ne_of_lt y4, Nat.ne_of_gt y4]) rfl ⟨rfl, ?_⟩
  repeat (first | with_reducible exact DB | with_reducible refine lies.frame_up ?_ _ | with_reducible refine Below.setCell ?_ (by dsimp only; omega) _)
set_option maxHeartbeats 1000000 in
theorem bt_none (a b c d : Int) (w : World) (s u : Bool) :
    Calls Try.prog 30 #[.agg #[.bool false, .int .i64 a, .int .i64 b, .bool s], .agg #[.bool false, .int .i64 c, .int .i64 d, .bool u]] w fun e w' => e = .returned (.agg #[.int .i64 (0), .int .i64 (1)]) ∧ Below w.heap.size w w' := by
  have DB := bound.up3 w (.cells #[.bool false, .int .i64 a, .int .i64 b, .bool s] 57) (.cells #[.bool false, .int .i64 c, .int .i64 d, .bool u] 57) (.cells #[.int .i64 0, .int .i64 0] 36)
  have D0 := lies.on_alloc (lies.on_alloc (lies.made w 57 #[.bool false, .int .i64 a, .int .i64 b, .bool s]) (.cells #[.bool false, .int .i64 c, .int .i64 d, .bool u] 57)) (.cells #[.int .i64 0, .int .i64 0] 36)
  have D1 := lies.on_alloc (lies.made_at (w.alloc (.cells #[.bool false, .int .i64 a, .int .i64 b, .bool s] 57)) 57 #[.bool false, .int .i64 c, .int .i64 d, .bool u] (w.heap.size + 1) (World.size_alloc _ _)) (.cells #[.int .i64 0, .int .i64 0] 36)
  have D2 := lies.made_at ((w.alloc (.cells #[.bool false, .int .i64 a, .int .i64 b, .bool s] 57)).alloc (.cells #[.bool false, .int .i64 c, .int .i64 d, .bool u] 57)) 36 #[.int .i64 0, .int .i64 0] (w.heap.size + 1 + 1) (by simp)
  go_enter Try.func30, Try.ntmps30
  obtain ⟨x0, x1, x2, x3, x4⟩ := four D0
  obtain ⟨y0, y1, y2, y3, y4⟩ := four D1
  go_wp2_with fail
  clear x0 x1 x2 x3 x4 y0 y1 y2 y3 y4
  generalize ((w.alloc (.cells #[.bool false, .int .i64 a, .int .i64 b, .bool s] 57)).alloc (.cells #[.bool false, .int .i64 c, .int .i64 d, .bool u] 57)).alloc (.cells #[.int .i64 0, .int .i64 0] 36) = w0 at D0 D1 D2 DB ⊢
  refine (whole_is 0 _).mono ?_
  rintro e w1 ⟨rfl, hB⟩
  replace D2 := lies.on_call D2 hB
  replace DB := later DB hB
  clear hB D0 D1
  obtain ⟨y0, y1, y2, y3, y4⟩ := lies.two D2
  go_wp2_with fail
  refine bodyPost_ret (v := .agg #[.int .i64 (0), .int .i64 (1)]) (by simp [results, Try.results30, go_sem, y0, y1, y4, Nat.ne_of_lt y4, Nat.ne_of_gt y4]) rfl ⟨rfl, ?_⟩
  repeat (first | with_reducible exact DB | with_reducible refine lies.frame_up ?_ _ | with_reducible refine Below.setCell ?_ (by dsimp only; omega) _)

theorem between_is {L H : Option Int} (hL : NearE (-1) L) (hH : NearE 1 H) (hb : Near (btw L H)) (he : ∀ l e, L = some l → H = some e → (l / 2) % 2 = 0 ∧ (e / 2) % 2 = 0) (w : World) :
    Calls Try.prog 30 #[endV (-1) L, endV 1 H] w fun e w' => e = .returned (.agg #[.int .i64 (p8 (btw L H)), .int .i64 (q8 (btw L H))]) ∧ Below w.heap.size w w' := by
  have low1 : ∀ l, L = some l → l % 2 = 1 → btw L H = -1 * (l / 2) := fun l h k => by
    subst h
    cases H <;> dsimp only [btw] <;> rw [if_pos k] <;> omega
  cases L with
  | none => cases H with
    | none =>
      have e : btw none none = 0 := rfl
      rw [e, eight_zero.1, eight_zero.2]
      exact bt_none 0 0 0 0 w false false
    | some h =>
      have hH' : Near (1 * (h / 2)) := hH
      obtain ⟨c1, c2⟩ := near_fits hH'
      by_cases p : h % 2 = 1
      · have e : btw none (some h) = 1 * (h / 2) := by dsimp only [btw]; rw [if_pos p]; omega
        rw [e]
        dsimp only [endV]
        rw [show decide (h % 2 = 0) = false by simp; omega]
        exact bt_high1 0 0 _ _ w false
      · have e : btw none (some h) = 1 * (h / 2) + 8 * (-1) := by dsimp only [btw]; rw [if_neg p]; omega
        rw [e] at hb ⊢
        obtain ⟨k1, k2, k3⟩ := add8 hH' (show May (-1) by decide) hb
        dsimp only [endV]
        rw [show decide (h % 2 = 0) = true by simp; omega]
        exact bt_hi 0 0 _ _ w false c1.1 c1.2 _ _ _ k1 k2 k3
  | some l =>
    have hL' : Near (-1 * (l / 2)) := hL
    obtain ⟨a1, a2⟩ := near_fits hL'
    by_cases p : l % 2 = 1
    · rw [low1 l rfl p]
      have : ∃ j c d u, endV 1 H = .agg #[.bool j, .int .i64 c, .int .i64 d, .bool u] := by
        cases H with
        | none => exact ⟨_, _, _, _, rfl⟩
        | some h => exact ⟨_, _, _, _, rfl⟩
      obtain ⟨j, c, d, u, e⟩ := this
      rw [e]
      dsimp only [endV]
      rw [show decide (l % 2 = 0) = false by simp; omega]
      exact bt_low _ _ c d w j u
    · have hp : decide (l % 2 = 0) = true := by simp; omega
      cases H with
      | none =>
        have e : btw (some l) none = -1 * (l / 2) + 8 * 1 := by dsimp only [btw]; rw [if_neg p]; omega
        rw [e] at hb ⊢
        obtain ⟨k1, k2, k3⟩ := add8 hL' (show May 1 by decide) hb
        dsimp only [endV]
        rw [hp]
        exact bt_lo _ _ 0 0 w false a1.1 a1.2 _ _ _ k1 k2 k3
      | some h =>
        have hH' : Near (1 * (h / 2)) := hH
        obtain ⟨c1, c2⟩ := near_fits hH'
        by_cases q : h % 2 = 1
        · have e : btw (some l) (some h) = 1 * (h / 2) := by dsimp only [btw]; rw [if_neg p, if_pos q]; omega
          rw [e]
          dsimp only [endV]
          rw [hp, show decide (h % 2 = 0) = false by simp; omega]
          exact bt_high2 _ _ _ _ w
        · have e : btw (some l) (some h) = (-1 * (l / 2) + 1 * (h / 2)) / 2 := by dsimp only [btw]; rw [if_neg p, if_neg q]; congr 1; omega
          rw [e] at hb ⊢
          have := he l h rfl rfl
          obtain ⟨k1, k2, k3⟩ := mid8 hL' hH' (by omega) hb
          dsimp only [endV]
          rw [hp, show decide (h % 2 = 0) = true by simp; omega]
          exact bt_mid _ _ _ _ w a1.1 a1.2 c1.1 c1.2 _ _ _ k1 k2 k3
end Go.Proofs.Ytnbpcgkdnkihdaa.incl
