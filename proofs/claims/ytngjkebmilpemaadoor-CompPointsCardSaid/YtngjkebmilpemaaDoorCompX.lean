/-
  Whether there is a time between, among the middles of ends, as the law of points asks; each theorem names its conditions.
-/
import Derived.Test.YtngjkebmilpemaaDoorCompW
namespace Go.Proofs.YtngjkebmilpemaaDoor.claw
open Go.Joins Go.ChangeShapes Go.WideShapes Go.ChangeAt Go.RowKit num rat dbm Go.Proofs.YtngjkebmilpemaaDoor.tight Go.Proofs.YtngjkebmilpemaaDoor.incl Go.Proofs.YtngjkebmilpemaaDoor.plaw Go.Proofs.YtngjkebmilpemaaDoor.zopen Go.Proofs.YtngjkebmilpemaaDoor.zone Go.Proofs.YtngjkebmilpemaaDoor.zlaw Go.Proofs.YtngjkebmilpemaaDoor.comp
open bound hiding up
set_option linter.unusedVariables false
set_option linter.unusedSimpArgs false

/-- the number that the end i is reckoned by. -/
def numE (a b : List Int) (i : Nat) : Int := sgn i * (byb a b i / 2)
instance (p q c : Int) : Decidable (EndOk p q c) := inferInstanceAs (Decidable (_ ∧ _))
/-- the ends that may be, of the first k. -/
def atsK (a b : List Int) (ta tb ua ub : Int) : Nat → List (Int × Int)
  | 0 => []
  | k + 1 => if EndOk (frm ta tb ua ub k).1 (frm ta tb ua ub k).2 (numE a b k) then atsK a b ta tb ua ub k ++ [EndV (frm ta tb ua ub k).1 (frm ta tb ua ub k).2 (numE a b k)] else atsK a b ta tb ua ub k
theorem atsK_yes {a b : List Int} {ta tb ua ub : Int} {k : Nat} (h : EndOk (frm ta tb ua ub k).1 (frm ta tb ua ub k).2 (numE a b k)) : atsK a b ta tb ua ub (k + 1) = atsK a b ta tb ua ub k ++ [EndV (frm ta tb ua ub k).1 (frm ta tb ua ub k).2 (numE a b k)] := if_pos h
theorem atsK_no {a b : List Int} {ta tb ua ub : Int} {k : Nat} (h : ¬ EndOk (frm ta tb ua ub k).1 (frm ta tb ua ub k).2 (numE a b k)) : atsK a b ta tb ua ub (k + 1) = atsK a b ta tb ua ub k := if_neg h
theorem atsK_length (a b : List Int) (ta tb ua ub : Int) : ∀ k, (atsK a b ta tb ua ub k).length ≤ k
  | 0 => Nat.le_refl _
  | k + 1 => by
    have := atsK_length a b ta tb ua ub k
    by_cases h : EndOk (frm ta tb ua ub k).1 (frm ta tb ua ub k).2 (numE a b k)
    · rw [atsK_yes h, List.length_append]; simp; omega
    · rw [atsK_no h]; omega
theorem atsK_ints (a b : List Int) (ta tb ua ub : Int) : ∀ k j, j < (atsK a b ta tb ua ub k).length → -9223372036854775808 ≤ (pr (atsK a b ta tb ua ub k) j).1 ∧ (pr (atsK a b ta tb ua ub k) j).1 ≤ 9223372036854775807
  | 0, j, h => absurd h (Nat.not_lt_zero j)
  | k + 1, j, h => by
    by_cases hk : EndOk (frm ta tb ua ub k).1 (frm ta tb ua ub k).2 (numE a b k)
    · rw [atsK_yes hk] at h ⊢
      by_cases e : j < (atsK a b ta tb ua ub k).length
      · have := atsK_ints a b ta tb ua ub k j e
        unfold pr at this ⊢
        rw [List.getElem?_append_left e]; exact this
      · obtain rfl : j = (atsK a b ta tb ua ub k).length := by rw [List.length_append] at h; simp at h; omega
        have : pr (atsK a b ta tb ua ub k ++ [EndV (frm ta tb ua ub k).1 (frm ta tb ua ub k).2 (numE a b k)]) (atsK a b ta tb ua ub k).length = EndV (frm ta tb ua ub k).1 (frm ta tb ua ub k).2 (numE a b k) := by unfold pr; simp
        rw [this]
        exact part_range _ _ _ _ _
    · rw [atsK_no hk] at h ⊢
      exact atsK_ints a b ta tb ua ub k j h
/-- is the middle of two ends a time between? -/
def FitE (a b : List Int) (ta tb ua ub : Int) (e f : Int × Int) : Prop := partE 2 e.1 e.2 f.1 f.2 = 0 ∧ HasT a ta tb (partN 2 e.1 e.2 f.1 f.2) (partD 2 e.1 e.2 f.1 f.2) ∧ HasT b (partN 2 e.1 e.2 f.1 f.2) (partD 2 e.1 e.2 f.1 f.2) ua ub

/-- what lies while ends are found. -/
def Bt (B4 B5 B6 n₀ : Nat) (a0 a1 a2 a3 a4 a5 b0 b1 b2 b3 b4 b5 pa pb pc pd : Int) (w W : World) : Prop :=
  Below w.heap.size w W ∧ Pl W ∧ lies.Lies W w.heap.size 24 #[.int .i64 a0, .int .i64 a1, .int .i64 a2, .int .i64 a3, .int .i64 a4, .int .i64 a5] ∧ lies.Lies W (w.heap.size + 1) 24 #[.int .i64 b0, .int .i64 b1, .int .i64 b2, .int .i64 b3, .int .i64 b4, .int .i64 b5] ∧ lies.Lies W (w.heap.size + 1 + 1) 51 #[.int .i64 pa, .int .i64 pb, .int .i64 pc, .int .i64 pd] ∧ lies.Lies W B4 90 #[.int .i64 0, .int .i64 1, .int .i64 0, .int .i64 1, .int .i64 pa, .int .i64 pb, .int .i64 pa, .int .i64 pb, .int .i64 0, .int .i64 1, .int .i64 0, .int .i64 1, .int .i64 pc, .int .i64 pd, .int .i64 pc, .int .i64 pd] ∧ lies.Lies W B5 91 #[.int .i64 a2, .int .i64 a3, .int .i64 a4, .int .i64 a5, .int .i64 b0, .int .i64 b1, .int .i64 b4, .int .i64 b5] ∧ lies.Lies W B6 92 #[.int .i64 1, .int .i64 (-1), .int .i64 1, .int .i64 (-1), .int .i64 1, .int .i64 (-1), .int .i64 (-1), .int .i64 1] ∧ n₀ ≤ W.heap.size ∧ w.heap.size + 1 + 1 < n₀ ∧ B4 < n₀ ∧ B5 < n₀ ∧ B6 < n₀
theorem Bt.below {B4 B5 B6 n₀ : Nat} {a0 a1 a2 a3 a4 a5 b0 b1 b2 b3 b4 b5 pa pb pc pd : Int} {w W X : World} (h : Bt B4 B5 B6 n₀ a0 a1 a2 a3 a4 a5 b0 b1 b2 b3 b4 b5 pa pb pc pd w W) (k : Below n₀ W X) : Bt B4 B5 B6 n₀ a0 a1 a2 a3 a4 a5 b0 b1 b2 b3 b4 b5 pa pb pc pd w X := by
  obtain ⟨h1, h2, h3, h4, h5, h6, h7, h8, h9, l1, l2, l3, l4⟩ := h
  exact ⟨h1.trans (k.mono (by omega)), h2.below k (by omega), (k.block _ (by omega)).trans h3, (k.block _ (by omega)).trans h4, (k.block _ (by omega)).trans h5, (k.block _ l2).trans h6, (k.block _ l3).trans h7, (k.block _ l4).trans h8, Nat.le_trans h9 k.size, l1, l2, l3, l4⟩
theorem own_call2 {W W' : World} {base n s : Nat} {t : TypeId} {v : Value} {xs : List Value} (h : W.ownsRow base t s v n xs) (k : Below W.heap.size W W') : W'.ownsRow base t s v n xs := h.kept (row := none) (grown_below (grown_refl W none) k (Nat.le_refl _)) (by cases v.ownBlock <;> simp)
theorem sixteen {W : World} {g : Nat} {t : TypeId} {c0 c1 c2 c3 c4 c5 c6 c7 c8 c9 c10 c11 c12 c13 c14 c15 : Value} (h : lies.Lies W g t #[c0, c1, c2, c3, c4, c5, c6, c7, c8, c9, c10, c11, c12, c13, c14, c15]) : W.cell? ⟨g, 0, none⟩ = some c0 ∧ W.cell? ⟨g, 1, none⟩ = some c1 ∧ W.cell? ⟨g, 2, none⟩ = some c2 ∧ W.cell? ⟨g, 3, none⟩ = some c3 ∧ W.cell? ⟨g, 4, none⟩ = some c4 ∧ W.cell? ⟨g, 5, none⟩ = some c5 ∧ W.cell? ⟨g, 6, none⟩ = some c6 ∧ W.cell? ⟨g, 7, none⟩ = some c7 ∧ W.cell? ⟨g, 8, none⟩ = some c8 ∧ W.cell? ⟨g, 9, none⟩ = some c9 ∧ W.cell? ⟨g, 10, none⟩ = some c10 ∧ W.cell? ⟨g, 11, none⟩ = some c11 ∧ W.cell? ⟨g, 12, none⟩ = some c12 ∧ W.cell? ⟨g, 13, none⟩ = some c13 ∧ W.cell? ⟨g, 14, none⟩ = some c14 ∧ W.cell? ⟨g, 15, none⟩ = some c15 :=
  ⟨lies.cell h 0, lies.cell h 1, lies.cell h 2, lies.cell h 3, lies.cell h 4, lies.cell h 5, lies.cell h 6, lies.cell h 7, lies.cell h 8, lies.cell h 9, lies.cell h 10, lies.cell h 11, lies.cell h 12, lies.cell h 13, lies.cell h 14, lies.cell h 15⟩
theorem eight {W : World} {g : Nat} {t : TypeId} {c0 c1 c2 c3 c4 c5 c6 c7 : Value} (h : lies.Lies W g t #[c0, c1, c2, c3, c4, c5, c6, c7]) : W.cell? ⟨g, 0, none⟩ = some c0 ∧ W.cell? ⟨g, 1, none⟩ = some c1 ∧ W.cell? ⟨g, 2, none⟩ = some c2 ∧ W.cell? ⟨g, 3, none⟩ = some c3 ∧ W.cell? ⟨g, 4, none⟩ = some c4 ∧ W.cell? ⟨g, 5, none⟩ = some c5 ∧ W.cell? ⟨g, 6, none⟩ = some c6 ∧ W.cell? ⟨g, 7, none⟩ = some c7 :=
  ⟨lies.cell h 0, lies.cell h 1, lies.cell h 2, lies.cell h 3, lies.cell h 4, lies.cell h 5, lies.cell h 6, lies.cell h 7⟩
/-- what is read for the end i. -/
theorem Bt.reads {B4 B5 B6 n₀ : Nat} {a0 a1 a2 a3 a4 a5 b0 b1 b2 b3 b4 b5 pa pb pc pd : Int} {w W : World} (h : Bt B4 B5 B6 n₀ a0 a1 a2 a3 a4 a5 b0 b1 b2 b3 b4 b5 pa pb pc pd w W) {i : Nat} (hi : i < 8) :
    W.cell? ⟨B4, i * 2, none⟩ = some (.int .i64 (frm pa pb pc pd i).1) ∧ W.cell? ⟨B4, i * 2 + 1, none⟩ = some (.int .i64 (frm pa pb pc pd i).2) ∧ W.cell? ⟨B5, i, none⟩ = some (.int .i64 (byb [a0, a1, a2, a3, a4, a5] [b0, b1, b2, b3, b4, b5] i)) ∧ W.cell? ⟨B6, i, none⟩ = some (.int .i64 (sgn i)) := by
  obtain ⟨_, _, _, _, _, h6, h7, h8, _⟩ := h
  obtain ⟨x0, x1, x2, x3, x4, x5, x6, x7, x8, x9, x10, x11, x12, x13, x14, x15⟩ := sixteen h6
  obtain ⟨y0, y1, y2, y3, y4, y5, y6, y7⟩ := eight h7
  obtain ⟨z0, z1, z2, z3, z4, z5, z6, z7⟩ := eight h8
  rcases (by omega : i = 0 ∨ i = 1 ∨ i = 2 ∨ i = 3 ∨ i = 4 ∨ i = 5 ∨ i = 6 ∨ i = 7) with rfl | rfl | rfl | rfl | rfl | rfl | rfl | rfl
  · exact ⟨x0, x1, y0, z0⟩
  · exact ⟨x2, x3, y1, z1⟩
  · exact ⟨x4, x5, y2, z2⟩
  · exact ⟨x6, x7, y3, z3⟩
  · exact ⟨x8, x9, y4, z4⟩
  · exact ⟨x10, x11, y5, z5⟩
  · exact ⟨x12, x13, y6, z6⟩
  · exact ⟨x14, x15, y7, z7⟩
theorem frm_range {ta tb ua ub : Int} (h : zone.Fit [ta, tb, ua, ub]) {i : Nat} (hi : i < 8) : -9223372036854775808 ≤ (frm ta tb ua ub i).1 ∧ (frm ta tb ua ub i).1 ≤ 9223372036854775807 := by
  have h1 := h ta (by simp)
  have h2 := h ua (by simp)
  rcases (by omega : i = 0 ∨ i = 1 ∨ i = 2 ∨ i = 3 ∨ i = 4 ∨ i = 5 ∨ i = 6 ∨ i = 7) with rfl | rfl | rfl | rfl | rfl | rfl | rfl | rfl
  · exact ⟨(by decide : (-9223372036854775808 : Int) ≤ 0), (by decide : (0 : Int) ≤ 9223372036854775807)⟩
  · exact ⟨(by decide : (-9223372036854775808 : Int) ≤ 0), (by decide : (0 : Int) ≤ 9223372036854775807)⟩
  · exact h1
  · exact h1
  · exact ⟨(by decide : (-9223372036854775808 : Int) ≤ 0), (by decide : (0 : Int) ≤ 9223372036854775807)⟩
  · exact ⟨(by decide : (-9223372036854775808 : Int) ≤ 0), (by decide : (0 : Int) ≤ 9223372036854775807)⟩
  · exact h2
  · exact h2
theorem byb_range {a b : List Int} (ha : ∀ x ∈ a, -9223372036854775808 ≤ x ∧ x ≤ 9223372036854775807) (hb : ∀ x ∈ b, -9223372036854775808 ≤ x ∧ x ≤ 9223372036854775807) (la : a.length = 6) (lb : b.length = 6) {i : Nat} (hi : i < 8) : -9223372036854775808 ≤ byb a b i ∧ byb a b i ≤ 9223372036854775807 := by
  obtain ⟨a0, a1, a2, a3, a4, a5, rfl⟩ := six la
  obtain ⟨b0, b1, b2, b3, b4, b5, rfl⟩ := six lb
  rcases (by omega : i = 0 ∨ i = 1 ∨ i = 2 ∨ i = 3 ∨ i = 4 ∨ i = 5 ∨ i = 6 ∨ i = 7) with rfl | rfl | rfl | rfl | rfl | rfl | rfl | rfl
  · exact ha a2 (by simp)
  · exact ha a3 (by simp)
  · exact ha a4 (by simp)
  · exact ha a5 (by simp)
  · exact hb b0 (by simp)
  · exact hb b1 (by simp)
  · exact hb b4 (by simp)
  · exact hb b5 (by simp)
theorem part_rangeD (k a b c d : Int) : (-9223372036854775808 ≤ partD k a b c d ∧ partD k a b c d ≤ 9223372036854775807) := by
  unfold partD
  split
  · by_cases h : lowOk (a * d + c * b) (b * d * k)
    · rw [(low_yes h).2.1]; have h1 := h.2.2.1; have h2 := h.2.2.2.1; exact ⟨by omega, by omega⟩
    · rw [(low_not h).2.1]; exact ⟨by decide, by decide⟩
  · exact ⟨by decide, by decide⟩
theorem fit_six {a b c d e f : Int} (h : zone.Fit [a, b, c, d]) (k : -9223372036854775808 ≤ e ∧ e ≤ 9223372036854775807) (l : -9223372036854775808 ≤ f ∧ f ≤ 9223372036854775807) : zone.Fit [a, b, c, d, e, f] := fun x hx => by
  simp only [List.mem_cons, List.not_mem_nil, or_false] at hx
  rcases hx with rfl | rfl | rfl | rfl | rfl | rfl
  · exact h _ (by simp)
  · exact h _ (by simp)
  · exact h _ (by simp)
  · exact h _ (by simp)
  · exact k
  · exact l
theorem sgn_is {i : Nat} (hi : i < 8) : sgn i = 1 ∨ sgn i = -1 := by
  rcases (by omega : i = 0 ∨ i = 1 ∨ i = 2 ∨ i = 3 ∨ i = 4 ∨ i = 5 ∨ i = 6 ∨ i = 7) with rfl | rfl | rfl | rfl | rfl | rfl | rfl | rfl <;> first | exact .inl rfl | exact .inr rfl

set_option maxRecDepth 100000 in
set_option maxHeartbeats 8000000 in
theorem between_is (a0 a1 a2 a3 a4 a5 b0 b1 b2 b3 b4 b5 pa pb pc pd : Int) (w : World) (hP : Pl w) (ha : ∀ x ∈ [a0, a1, a2, a3, a4, a5], -9223372036854775808 ≤ x ∧ x ≤ 9223372036854775807) (hb : ∀ x ∈ [b0, b1, b2, b3, b4, b5], -9223372036854775808 ≤ x ∧ x ≤ 9223372036854775807) (hF : zone.Fit [pa, pb, pc, pd]) :
    Calls Tryd.prog 22 #[.agg #[.int .i64 a0, .int .i64 a1, .int .i64 a2, .int .i64 a3, .int .i64 a4, .int .i64 a5], .agg #[.int .i64 b0, .int .i64 b1, .int .i64 b2, .int .i64 b3, .int .i64 b4, .int .i64 b5], .agg #[.int .i64 pa, .int .i64 pb, .int .i64 pc, .int .i64 pd]] w (Tell (∃ i k, k ≤ i ∧ i < (atsK [a0, a1, a2, a3, a4, a5] [b0, b1, b2, b3, b4, b5] pa pb pc pd 8).length ∧ FitE [a0, a1, a2, a3, a4, a5] [b0, b1, b2, b3, b4, b5] pa pb pc pd (pr (atsK [a0, a1, a2, a3, a4, a5] [b0, b1, b2, b3, b4, b5] pa pb pc pd 8) i) (pr (atsK [a0, a1, a2, a3, a4, a5] [b0, b1, b2, b3, b4, b5] pa pb pc pd 8) k)) w) := by
  have X : ∃ w0, w0 = ((((((w.alloc (.cells #[.int .i64 a0, .int .i64 a1, .int .i64 a2, .int .i64 a3, .int .i64 a4, .int .i64 a5] 24)).alloc (.cells #[.int .i64 b0, .int .i64 b1, .int .i64 b2, .int .i64 b3, .int .i64 b4, .int .i64 b5] 24)).alloc (.cells #[.int .i64 pa, .int .i64 pb, .int .i64 pc, .int .i64 pd] 51)).alloc (.cells #[.int .i64 0, .int .i64 1] 49)).alloc (.cells #[.int .i64 0, .int .i64 1, .int .i64 0, .int .i64 1, .int .i64 pa, .int .i64 pb, .int .i64 pa, .int .i64 pb, .int .i64 0, .int .i64 1, .int .i64 0, .int .i64 1, .int .i64 pc, .int .i64 pd, .int .i64 pc, .int .i64 pd] 90)).alloc (.cells #[.int .i64 a2, .int .i64 a3, .int .i64 a4, .int .i64 a5, .int .i64 b0, .int .i64 b1, .int .i64 b4, .int .i64 b5] 91)).alloc (.cells #[.int .i64 1, .int .i64 (-1), .int .i64 1, .int .i64 (-1), .int .i64 1, .int .i64 (-1), .int .i64 (-1), .int .i64 1] 92) := ⟨_, rfl⟩
  obtain ⟨w0, hX⟩ := X
  have DB : Below w.heap.size w w0 := by rw [hX]; exact lies.frame_up (lies.frame_up (lies.frame_up (lies.frame_up (bound.up3 _ _ _ _) _) _) _) _
  have D0 : lies.Lies w0 (w.heap.size) 24 #[.int .i64 a0, .int .i64 a1, .int .i64 a2, .int .i64 a3, .int .i64 a4, .int .i64 a5] := by rw [hX]; exact lies.on_alloc (lies.on_alloc (lies.on_alloc (lies.on_alloc (lies.on_alloc (lies.on_alloc (lies.made _ _ _) _) _) _) _) _) _
  have D1 : lies.Lies w0 (w.heap.size + 1) 24 #[.int .i64 b0, .int .i64 b1, .int .i64 b2, .int .i64 b3, .int .i64 b4, .int .i64 b5] := by rw [hX]; exact lies.on_alloc (lies.on_alloc (lies.on_alloc (lies.on_alloc (lies.on_alloc (lies.made_at _ _ _ _ (by simp)) _) _) _) _) _
  have D2 : lies.Lies w0 (w.heap.size + 1 + 1) 51 #[.int .i64 pa, .int .i64 pb, .int .i64 pc, .int .i64 pd] := by rw [hX]; exact lies.on_alloc (lies.on_alloc (lies.on_alloc (lies.on_alloc (lies.made_at _ _ _ _ (by simp)) _) _) _) _
  have D4 : lies.Lies w0 (w.heap.size + 1 + 1 + 1 + 1) 90 #[.int .i64 0, .int .i64 1, .int .i64 0, .int .i64 1, .int .i64 pa, .int .i64 pb, .int .i64 pa, .int .i64 pb, .int .i64 0, .int .i64 1, .int .i64 0, .int .i64 1, .int .i64 pc, .int .i64 pd, .int .i64 pc, .int .i64 pd] := by rw [hX]; exact lies.on_alloc (lies.on_alloc (lies.made_at _ _ _ _ (by simp)) _) _
  have D5 : lies.Lies w0 (w.heap.size + 1 + 1 + 1 + 1 + 1) 91 #[.int .i64 a2, .int .i64 a3, .int .i64 a4, .int .i64 a5, .int .i64 b0, .int .i64 b1, .int .i64 b4, .int .i64 b5] := by rw [hX]; exact lies.on_alloc (lies.made_at _ _ _ _ (by simp)) _
  have D6 : lies.Lies w0 (w.heap.size + 1 + 1 + 1 + 1 + 1 + 1) 92 #[.int .i64 1, .int .i64 (-1), .int .i64 1, .int .i64 (-1), .int .i64 1, .int .i64 (-1), .int .i64 (-1), .int .i64 1] := by rw [hX]; exact lies.made_at _ _ _ _ (by simp)
  have P0 := hP.on DB
  have HA := Lib.hid ha
  have HB := Lib.hid hb
  have HF := Lib.hid hF
  have TA := Lib.hid (show Tops [a0, a1, a2, a3, a4, a5] from fun x hx => (ha x hx).2)
  have TB := Lib.hid (show Tops [b0, b1, b2, b3, b4, b5] from fun x hx => (hb x hx).2)
  clear hP ha hb hF
  obtain ⟨n₀, hn⟩ : ∃ n₀, n₀ = w0.heap.size := ⟨_, rfl⟩
  have I0 : Bt (w.heap.size + 1 + 1 + 1 + 1) (w.heap.size + 1 + 1 + 1 + 1 + 1) (w.heap.size + 1 + 1 + 1 + 1 + 1 + 1) n₀ a0 a1 a2 a3 a4 a5 b0 b1 b2 b3 b4 b5 pa pb pc pd w w0 := ⟨DB, P0, D0, D1, D2, D4, D5, D6, by omega, by have := lies.lt D6; omega, by have := lies.lt D6; omega, by have := lies.lt D6; omega, by have := lies.lt D6; omega⟩
  have hOW : w0.ownsRow n₀ 49 2 (.slice none 0 0) (atsK [a0, a1, a2, a3, a4, a5] [b0, b1, b2, b3, b4, b5] pa pb pc pd 0).length (flat (atsK [a0, a1, a2, a3, a4, a5] [b0, b1, b2, b3, b4, b5] pa pb pc pd 0)) := World.ownsRow_nil _ _ _ _
  clear DB D0 D1 D2 D4 D5 D6 P0
  go_enter Tryd.func22, Tryd.ntmps22
  go_wp2_with fail
  rw [← hX]
  clear hX hn
  generalize w.heap.size + 1 + 1 + 1 + 1 + 1 + 1 = B6 at I0 ⊢
  generalize w.heap.size + 1 + 1 + 1 + 1 + 1 = B5 at I0 ⊢
  generalize w.heap.size + 1 + 1 + 1 + 1 = B4 at I0 ⊢
  go_loopw [11, 12] (fun av iv wr => ∃ k : Nat, k ≤ 8 ∧ iv = .int .i64 k ∧ Bt B4 B5 B6 n₀ a0 a1 a2 a3 a4 a5 b0 b1 b2 b3 b4 b5 pa pb pc pd w wr ∧ wr.ownsRow n₀ 49 2 av (atsK [a0, a1, a2, a3, a4, a5] [b0, b1, b2, b3, b4, b5] pa pb pc pd k).length (flat (atsK [a0, a1, a2, a3, a4, a5] [b0, b1, b2, b3, b4, b5] pa pb pc pd k))) (fun _ iv _ => 8 - (intOf iv).toNat)
  case atStart => exact ⟨0, Nat.zero_le _, rfl, I0, hOW⟩
  case round =>
    clear I0 hOW
    obtain ⟨k, hk, rfl, hA, O⟩ := hrel
    obtain ⟨ma, ml, mc, rfl⟩ := own_slice O
    by_cases hk8 : k < 8
    · have hup1 := @atsK_yes [a0, a1, a2, a3, a4, a5] [b0, b1, b2, b3, b4, b5] pa pb pc pd k
      have hup2 := @atsK_no [a0, a1, a2, a3, a4, a5] [b0, b1, b2, b3, b4, b5] pa pb pc pd k
      rw [show numE [a0, a1, a2, a3, a4, a5] [b0, b1, b2, b3, b4, b5] k = sgn k * (byb [a0, a1, a2, a3, a4, a5] [b0, b1, b2, b3, b4, b5] k / 2) from rfl] at hup1 hup2
      have hR := fun (W : World) (h : Below wr.heap.size wr W) => (hA.below (h.mono hA.2.2.2.2.2.2.2.2.1)).reads hk8
      have hfr := frm_range HF.out hk8
      have hby := byb_range HA.out HB.out rfl rfl hk8
      have hsg := sgn_is hk8
      have hln := atsK_length [a0, a1, a2, a3, a4, a5] [b0, b1, b2, b3, b4, b5] pa pb pc pd k
      generalize atsK [a0, a1, a2, a3, a4, a5] [b0, b1, b2, b3, b4, b5] pa pb pc pd k = rs at O hup1 hup2 hln
      generalize byb [a0, a1, a2, a3, a4, a5] [b0, b1, b2, b3, b4, b5] k = x at hup1 hup2 hR hby
      generalize sgn k = sg at hup1 hup2 hR hsg
      generalize frm pa pb pc pd k = fr at hup1 hup2 hR hfr
      obtain ⟨f1, f2⟩ := fr
      dsimp only at hup1 hup2 hR hfr
      have hE := fun W => end_is f1 f2 x sg W hfr hby hsg
      unfold Ended at hE
      generalize EndV f1 f2 (sg * (x / 2)) = V at hup1 hE
      obtain ⟨y1, y2⟩ := V
      dsimp only at hE
      generalize EndOk f1 f2 (sg * (x / 2)) = OK at hup1 hup2 hE
      have HE := Lib.hid hE
      have HR := Lib.hid hR
      have H1 := Lib.hid hup1
      have H2 := Lib.hid hup2
      have HLN := Lib.hid hln
      have hn0 := hA.2.2.2.2.2.2.2.2.1
      clear hE hR hup1 hup2 hln hfr hby hsg
      go_wp2_with fail
      refine wp_region_held_drew (S := Below wr.heap.size wr) (by kernel_rfl) (dbm.drawn1 (Below.refl _ _)) (fun hHeld => ?_)
      generalize wr.drew = wD at hHeld ⊢
      refine wpAnyH_take (i := 0) (v := ?_) rfl (by kernel_rfl) (by kernel_rfl) (by kernel_rfl) (fun _ _ _ h => h) (Or.inl ⟨by rfl, ?_⟩) hHeld ?_
      rotate_left
      · intro w hSw; obtain ⟨r1, r2, r3, r4⟩ := HR.out _ hSw; go_simp; try with_reducible rfl
      try simp only [Act.put, List.getElem_toArray, List.getElem_cons_zero, List.getElem_cons_succ, List.setIfInBounds_toArray, List.set_cons_zero, List.set_cons_succ]
      refine wpAnyH_take (i := 1) (v := ?_) rfl (by kernel_rfl) (by kernel_rfl) (by kernel_rfl) (fun _ _ _ h => h) (Or.inl ⟨by rfl, ?_⟩) hHeld ?_
      rotate_left
      · intro w hSw; obtain ⟨r1, r2, r3, r4⟩ := HR.out _ hSw; go_simp; try with_reducible rfl
      try simp only [Act.put, List.getElem_toArray, List.getElem_cons_zero, List.getElem_cons_succ, List.setIfInBounds_toArray, List.set_cons_zero, List.set_cons_succ]
      refine wpAnyH_take (i := 2) (v := ?_) rfl (by kernel_rfl) (by kernel_rfl) (by kernel_rfl) (fun _ _ _ h => h) (Or.inl ⟨by rfl, ?_⟩) hHeld ?_
      rotate_left
      · intro w hSw; obtain ⟨r1, r2, r3, r4⟩ := HR.out _ hSw; go_simp; try with_reducible rfl
      try simp only [Act.put, List.getElem_toArray, List.getElem_cons_zero, List.getElem_cons_succ, List.setIfInBounds_toArray, List.set_cons_zero, List.set_cons_succ]
      refine wpAnyH_take (i := 3) (v := ?_) rfl (by kernel_rfl) (by kernel_rfl) (by kernel_rfl) (fun _ _ _ h => h) (Or.inl ⟨by rfl, ?_⟩) hHeld ?_
      rotate_left
      · intro w hSw; obtain ⟨r1, r2, r3, r4⟩ := HR.out _ hSw; go_simp; try with_reducible rfl
      try simp only [Act.put, List.getElem_toArray, List.getElem_cons_zero, List.getElem_cons_succ, List.setIfInBounds_toArray, List.set_cons_zero, List.set_cons_succ]
      refine wpAnyH_take (i := 4) (v := ?_) rfl (by kernel_rfl) (by kernel_rfl) (by kernel_rfl) (fun _ _ _ h => h) (Or.inl ⟨by rfl, ?_⟩) hHeld ?_
      rotate_left
      · intro w hSw; obtain ⟨r1, r2, r3, r4⟩ := HR.out _ hSw; go_simp; try with_reducible rfl
      try simp only [Act.put, List.getElem_toArray, List.getElem_cons_zero, List.getElem_cons_succ, List.setIfInBounds_toArray, List.set_cons_zero, List.set_cons_succ]
      refine wpAnyH_take (i := 5) (v := ?_) rfl (by kernel_rfl) (by kernel_rfl) (by kernel_rfl) (fun _ _ _ h => h) (Or.inl ⟨by rfl, ?_⟩) hHeld ?_
      rotate_left
      · intro w hSw; obtain ⟨r1, r2, r3, r4⟩ := HR.out _ hSw; go_simp; try with_reducible rfl
      try simp only [Act.put, List.getElem_toArray, List.getElem_cons_zero, List.getElem_cons_succ, List.setIfInBounds_toArray, List.set_cons_zero, List.set_cons_succ]
      refine wpAnyH_take (i := 6) (v := ?_) rfl (by kernel_rfl) (by kernel_rfl) (by kernel_rfl) (fun _ _ _ h => h) (Or.inl ⟨by rfl, ?_⟩) hHeld ?_
      rotate_left
      · intro w hSw; obtain ⟨r1, r2, r3, r4⟩ := HR.out _ hSw; go_simp; try with_reducible rfl
      try simp only [Act.put, List.getElem_toArray, List.getElem_cons_zero, List.getElem_cons_succ, List.setIfInBounds_toArray, List.set_cons_zero, List.set_cons_succ]
      refine wpAnyH_take (i := 7) (v := ?_) rfl (by kernel_rfl) (by kernel_rfl) (by kernel_rfl) (fun _ _ _ h => h) (Or.inl ⟨by rfl, ?_⟩) hHeld ?_
      rotate_left
      · intro w hSw; obtain ⟨r1, r2, r3, r4⟩ := HR.out _ hSw; go_simp; try with_reducible rfl
      try simp only [Act.put, List.getElem_toArray, List.getElem_cons_zero, List.getElem_cons_succ, List.setIfInBounds_toArray, List.set_cons_zero, List.set_cons_succ]
      refine wpAnyH_take (i := 8) (v := ?_) rfl (by kernel_rfl) (by kernel_rfl) (by kernel_rfl) (fun _ _ _ h => h) (Or.inl ⟨by rfl, ?_⟩) hHeld ?_
      rotate_left
      · intro w hSw; obtain ⟨r1, r2, r3, r4⟩ := HR.out _ hSw; go_simp; try with_reducible rfl
      try simp only [Act.put, List.getElem_toArray, List.getElem_cons_zero, List.getElem_cons_succ, List.setIfInBounds_toArray, List.set_cons_zero, List.set_cons_succ]
      refine wpAnyH_ready (rs := [9, 13]) (by kernel_rfl) (by simp) (AllReadyH.cons rfl (fun K hK => ?_) (AllReadyH.cons rfl (fun K hK => ?_) AllReadyH.nil))
      · go_simp
        refine (HE.out _).mono ?_
        rintro e u1 ⟨hB, rb, rfl, hrb⟩
        refine hK.out _ _ (hHeld.trans (hB.mono hHeld.size)) (fun hNew => ?_)
        clear hB
        clear hHeld hK K
        have hHeld := hNew
        clear hNew
        try simp only [Act.put, List.getElem_toArray, List.getElem_cons_zero, List.getElem_cons_succ, List.setIfInBounds_toArray, List.set_cons_zero, List.set_cons_succ]
        refine wpAnyH_take (i := 10) (v := ?_) rfl (by kernel_rfl) (by kernel_rfl) (by kernel_rfl) (fun _ _ _ h => h) (Or.inl ⟨by rfl, ?_⟩) hHeld ?_
        rotate_left
        · intro w hSw; skip; go_simp; try with_reducible rfl
        try simp only [Act.put, List.getElem_toArray, List.getElem_cons_zero, List.getElem_cons_succ, List.setIfInBounds_toArray, List.set_cons_zero, List.set_cons_succ]
        refine wpAnyH_take (i := 11) (v := ?_) rfl (by kernel_rfl) (by kernel_rfl) (by kernel_rfl) (fun _ _ _ h => h) (Or.inl ⟨by rfl, ?_⟩) hHeld ?_
        rotate_left
        · intro w hSw; skip; go_simp; try with_reducible rfl
        try simp only [Act.put, List.getElem_toArray, List.getElem_cons_zero, List.getElem_cons_succ, List.setIfInBounds_toArray, List.set_cons_zero, List.set_cons_succ]
        refine wpAnyH_take (i := 12) (v := ?_) rfl (by kernel_rfl) (by kernel_rfl) (by kernel_rfl) (fun _ _ _ h => h) (Or.inl ⟨by rfl, ?_⟩) hHeld ?_
        rotate_left
        · intro w hSw; skip; go_simp; try with_reducible rfl
        try simp only [Act.put, List.getElem_toArray, List.getElem_cons_zero, List.getElem_cons_succ, List.setIfInBounds_toArray, List.set_cons_zero, List.set_cons_succ]
        refine wpAnyH_ready (rs := [13]) (by kernel_rfl) (by simp) (AllReadyH.cons rfl (fun K hK => ?_) AllReadyH.nil)
        go_simp
        have hT := hHeld.size
        have L := lies.made u1 49 #[.int .i64 0, .int .i64 0]
        have hAl := hHeld.trans ((bound.up1 u1 (.cells #[.int .i64 0, .int .i64 0] 49)).mono hHeld.size)
        refine hK.out _ _ hAl (fun hNew => ?_)
        clear hAl
        clear hHeld hK K
        have hHeld := hNew
        clear hNew
        try simp only [Act.put, List.getElem_toArray, List.getElem_cons_zero, List.getElem_cons_succ, List.setIfInBounds_toArray, List.set_cons_zero, List.set_cons_succ]
        generalize (World.heap u1).size = T at hT L ⊢
        generalize World.alloc u1 (.cells #[.int .i64 0, .int .i64 0] 49) = wA at L hHeld ⊢
        obtain ⟨c0, c1, g0, g1, cl⟩ := lies.two L
        refine wpAnyH_ready (rs := [14]) (by kernel_rfl) (by simp) (AllReadyH.cons rfl (fun K hK => ?_) AllReadyH.nil)
        go_simp
        replace hHeld := (hHeld.setCell (p := ⟨T, 0, none⟩) hT (.int .i64 y1)).setCell (p := ⟨T, 1, none⟩) hT (.int .i64 y2)
        replace L := put_two L (.int .i64 y1) (.int .i64 y2)
        refine hK.out _ _ hHeld (fun hNew => ?_)
        clear hHeld hK K
        have hHeld := hNew
        clear hNew
        try simp only [Act.put, List.getElem_toArray, List.getElem_cons_zero, List.getElem_cons_succ, List.setIfInBounds_toArray, List.set_cons_zero, List.set_cons_succ]
        generalize World.setCell (World.setCell (wA) ⟨T, 0, none⟩ (.int .i64 y1)) ⟨T, 1, none⟩ (.int .i64 y2) = wB at L hHeld ⊢
        refine wpAnyH_take (i := 15) (v := ?_) rfl (by kernel_rfl) (by kernel_rfl) (by kernel_rfl) (fun _ _ _ h => h) (Or.inl ⟨by rfl, ?_⟩) hHeld ?_
        rotate_left
        · intro w hSw; skip; go_simp; try with_reducible rfl
        try simp only [Act.put, List.getElem_toArray, List.getElem_cons_zero, List.getElem_cons_succ, List.setIfInBounds_toArray, List.set_cons_zero, List.set_cons_succ]
        refine wpAnyH_done (by kernel_rfl) ?_ _
        replace hA := hA.below (hHeld.mono hn0)
        have O1 := own_call2 O hHeld
        have hn1 := hA.2.2.2.2.2.2.2.2.1
        clear O hHeld hT HR HE hn0
        cases rb with
        | false =>
          have hx := H2.out (fun q => by have := hrb.2 q; cases this)
          have HX := Lib.hid hx
          clear hx hrb H1 H2 L
          go_wp2_with fail
          go_roundw
          case rel => exact ⟨k + 1, by omega, by go_num, hA, by rw [HX.out]; exact O1⟩
          case measure => simp [intOf]; omega
        | true =>
          have hx := H1.out (hrb.1 rfl)
          have HX := Lib.hid hx
          clear hx hrb H1 H2
          obtain ⟨v1, w1, hrun, own, hgrow⟩ := app_any n₀ 68 (.slice ma ml mc) (.slice (some ⟨wB.heap.size, 0, none⟩) 1 1) rs.length _ (flat rs) [(y1, y2)] (wB.alloc (.cells #[.int .i64 y1, .int .i64 y2] 49)) (O1.alloc _) (rats_one (lies.made wB 49 #[.int .i64 y1, .int .i64 y2])) (by have := HLN.out; simp; omega) (by simp; omega)
          have HRUN := Lib.hid hrun
          have HBB : RowKit.Hid (Below n₀ wB w1) := Lib.hid (held_grown ((Below.refl _ wB).alloc hn1 _) (by simp; omega) (O1.alloc _) (Nat.le_refl _) hgrow)
          have HOW : RowKit.Hid (w1.ownsRow n₀ 49 2 v1 (rs.length + 1) (flat (rs ++ [(y1, y2)]))) := Lib.hid (by rw [flat_app]; exact own)
          clear hrun own hgrow O1
          obtain ⟨l0, l1, -, -, ll⟩ := lies.two L
          clear L
          go_wp2_with (at_builtin; refine dref.append_run2 rfl (.tmp 69) (.tmp 71) 68 rfl _ _ _ _ rfl rfl HRUN.out ?_; clear HRUN)
          go_roundw
          case rel => exact ⟨k + 1, by omega, by go_num, hA.below HBB.out, by rw [HX.out, List.length_append]; exact HOW.out⟩
          case measure => simp [intOf]; omega
      · go_simp
        have hT := hHeld.size
        have L := lies.made wD 49 #[.int .i64 0, .int .i64 0]
        have hAl := hHeld.trans ((bound.up1 wD (.cells #[.int .i64 0, .int .i64 0] 49)).mono hHeld.size)
        refine hK.out _ _ hAl (fun hNew => ?_)
        clear hAl
        clear hHeld hK K
        have hHeld := hNew
        clear hNew
        try simp only [Act.put, List.getElem_toArray, List.getElem_cons_zero, List.getElem_cons_succ, List.setIfInBounds_toArray, List.set_cons_zero, List.set_cons_succ]
        generalize (World.heap wD).size = T at hT L ⊢
        generalize World.alloc wD (.cells #[.int .i64 0, .int .i64 0] 49) = wA at L hHeld ⊢
        refine wpAnyH_ready (rs := [9]) (by kernel_rfl) (by simp) (AllReadyH.cons rfl (fun K hK => ?_) AllReadyH.nil)
        go_simp
        refine (HE.out _).mono ?_
        rintro e u1 ⟨hB, rb, rfl, hrb⟩
        replace L := lies.on_call L hB
        refine hK.out _ _ (hHeld.trans (hB.mono hHeld.size)) (fun hNew => ?_)
        clear hB
        clear hHeld hK K
        have hHeld := hNew
        clear hNew
        try simp only [Act.put, List.getElem_toArray, List.getElem_cons_zero, List.getElem_cons_succ, List.setIfInBounds_toArray, List.set_cons_zero, List.set_cons_succ]
        refine wpAnyH_take (i := 10) (v := ?_) rfl (by kernel_rfl) (by kernel_rfl) (by kernel_rfl) (fun _ _ _ h => h) (Or.inl ⟨by rfl, ?_⟩) hHeld ?_
        rotate_left
        · intro w hSw; skip; go_simp; try with_reducible rfl
        try simp only [Act.put, List.getElem_toArray, List.getElem_cons_zero, List.getElem_cons_succ, List.setIfInBounds_toArray, List.set_cons_zero, List.set_cons_succ]
        refine wpAnyH_take (i := 11) (v := ?_) rfl (by kernel_rfl) (by kernel_rfl) (by kernel_rfl) (fun _ _ _ h => h) (Or.inl ⟨by rfl, ?_⟩) hHeld ?_
        rotate_left
        · intro w hSw; skip; go_simp; try with_reducible rfl
        try simp only [Act.put, List.getElem_toArray, List.getElem_cons_zero, List.getElem_cons_succ, List.setIfInBounds_toArray, List.set_cons_zero, List.set_cons_succ]
        refine wpAnyH_take (i := 12) (v := ?_) rfl (by kernel_rfl) (by kernel_rfl) (by kernel_rfl) (fun _ _ _ h => h) (Or.inl ⟨by rfl, ?_⟩) hHeld ?_
        rotate_left
        · intro w hSw; skip; go_simp; try with_reducible rfl
        try simp only [Act.put, List.getElem_toArray, List.getElem_cons_zero, List.getElem_cons_succ, List.setIfInBounds_toArray, List.set_cons_zero, List.set_cons_succ]
        obtain ⟨c0, c1, g0, g1, cl⟩ := lies.two L
        refine wpAnyH_ready (rs := [14]) (by kernel_rfl) (by simp) (AllReadyH.cons rfl (fun K hK => ?_) AllReadyH.nil)
        go_simp
        replace hHeld := (hHeld.setCell (p := ⟨T, 0, none⟩) hT (.int .i64 y1)).setCell (p := ⟨T, 1, none⟩) hT (.int .i64 y2)
        replace L := put_two L (.int .i64 y1) (.int .i64 y2)
        refine hK.out _ _ hHeld (fun hNew => ?_)
        clear hHeld hK K
        have hHeld := hNew
        clear hNew
        try simp only [Act.put, List.getElem_toArray, List.getElem_cons_zero, List.getElem_cons_succ, List.setIfInBounds_toArray, List.set_cons_zero, List.set_cons_succ]
        generalize World.setCell (World.setCell (u1) ⟨T, 0, none⟩ (.int .i64 y1)) ⟨T, 1, none⟩ (.int .i64 y2) = wB at L hHeld ⊢
        refine wpAnyH_take (i := 15) (v := ?_) rfl (by kernel_rfl) (by kernel_rfl) (by kernel_rfl) (fun _ _ _ h => h) (Or.inl ⟨by rfl, ?_⟩) hHeld ?_
        rotate_left
        · intro w hSw; skip; go_simp; try with_reducible rfl
        try simp only [Act.put, List.getElem_toArray, List.getElem_cons_zero, List.getElem_cons_succ, List.setIfInBounds_toArray, List.set_cons_zero, List.set_cons_succ]
        refine wpAnyH_done (by kernel_rfl) ?_ _
        replace hA := hA.below (hHeld.mono hn0)
        have O1 := own_call2 O hHeld
        have hn1 := hA.2.2.2.2.2.2.2.2.1
        clear O hHeld hT HR HE hn0
        cases rb with
        | false =>
          have hx := H2.out (fun q => by have := hrb.2 q; cases this)
          have HX := Lib.hid hx
          clear hx hrb H1 H2 L
          go_wp2_with fail
          go_roundw
          case rel => exact ⟨k + 1, by omega, by go_num, hA, by rw [HX.out]; exact O1⟩
          case measure => simp [intOf]; omega
        | true =>
          have hx := H1.out (hrb.1 rfl)
          have HX := Lib.hid hx
          clear hx hrb H1 H2
          obtain ⟨v1, w1, hrun, own, hgrow⟩ := app_any n₀ 68 (.slice ma ml mc) (.slice (some ⟨wB.heap.size, 0, none⟩) 1 1) rs.length _ (flat rs) [(y1, y2)] (wB.alloc (.cells #[.int .i64 y1, .int .i64 y2] 49)) (O1.alloc _) (rats_one (lies.made wB 49 #[.int .i64 y1, .int .i64 y2])) (by have := HLN.out; simp; omega) (by simp; omega)
          have HRUN := Lib.hid hrun
          have HBB : RowKit.Hid (Below n₀ wB w1) := Lib.hid (held_grown ((Below.refl _ wB).alloc hn1 _) (by simp; omega) (O1.alloc _) (Nat.le_refl _) hgrow)
          have HOW : RowKit.Hid (w1.ownsRow n₀ 49 2 v1 (rs.length + 1) (flat (rs ++ [(y1, y2)]))) := Lib.hid (by rw [flat_app]; exact own)
          clear hrun own hgrow O1
          obtain ⟨l0, l1, -, -, ll⟩ := lies.two L
          clear L
          go_wp2_with (at_builtin; refine dref.append_run2 rfl (.tmp 69) (.tmp 71) 68 rfl _ _ _ _ rfl rfl HRUN.out ?_; clear HRUN)
          go_roundw
          case rel => exact ⟨k + 1, by omega, by go_num, hA.below HBB.out, by rw [HX.out, List.length_append]; exact HOW.out⟩
          case measure => simp [intOf]; omega
    · obtain rfl : k = 8 := by omega
      rw [show ((8 : Nat) : Int) = 8 from rfl]
      have hln := atsK_length [a0, a1, a2, a3, a4, a5] [b0, b1, b2, b3, b4, b5] pa pb pc pd 8
      have hin := atsK_ints [a0, a1, a2, a3, a4, a5] [b0, b1, b2, b3, b4, b5] pa pb pc pd 8
      have hSZ := hA.2.2.2.2.2.2.2.2.1
      obtain ⟨DB, P0, D0, D1, D2, _⟩ := hA
      have hRR := rats_own O rfl
      have hml := O.1
      generalize hQ : atsK [a0, a1, a2, a3, a4, a5] [b0, b1, b2, b3, b4, b5] pa pb pc pd 8 = rs at hRR hln hin hml O
      have HQ := Lib.hid hQ
      have HRR := Lib.hid hRR
      have HIN := Lib.hid hin
      have HLN := Lib.hid hln
      obtain ⟨ao, cap, e0⟩ := rats_len hRR
      injection e0 with e1 e2 e3
      subst e1
      subst e2
      subst e3
      clear hRR hin hln hQ O hml hSZ
      obtain ⟨wS, hWS⟩ : ∃ x, x = wr := ⟨_, rfl⟩
      subst hWS
      go_wp2_with fail
      go_loopw [15] (fun iv wq => ∃ i : Nat, i ≤ rs.length ∧ iv = .int .i64 i ∧ Below wS.heap.size wS wq ∧ RowKit.Hid (∀ i2, i2 < i → ∀ k, k ≤ i2 → ¬ FitE [a0, a1, a2, a3, a4, a5] [b0, b1, b2, b3, b4, b5] pa pb pc pd (pr rs i2) (pr rs k))) (fun iv _ => rs.length - (intOf iv).toNat)
      case atStart => exact ⟨0, Nat.zero_le _, rfl, Below.refl _ _, Lib.hid (fun j hj => absurd hj (Nat.not_lt_zero j))⟩
      case round =>
        obtain ⟨i, hi, rfl, hBi, hN⟩ := hrel
        by_cases hil : i < rs.length
        · obtain ⟨bb, off, c2, eo, htb, htr⟩ : ∃ b off c, Value.slice ma rs.length mc = .slice (some ⟨b, off, none⟩) rs.length c ∧ b < wS.heap.size ∧ RowR wS b off rs := by
            rcases HRR.out with ⟨_, h⟩ | h
            · rw [h] at hil; simp at hil
            · exact h
          injection eo with eo1 eo2 eo3
          subst eo1
          subst eo3
          clear eo2
          have HTR := Lib.hid htr
          clear htr
          have hpi : (i : Int) < rs.length := by omega
          obtain ⟨i1, i2⟩ := HIN.out i hil
          have HI12 := Lib.hid (And.intro i1 i2)
          clear i1 i2
          obtain ⟨wT, hWT⟩ : ∃ x, x = wr := ⟨_, rfl⟩
          subst hWT
          go_wp2_with fail
          try simp only [hpi, decide_true]
          go_loopw [16] (fun kv wq => ∃ k : Nat, k ≤ i + 1 ∧ kv = .int .i64 k ∧ Below wS.heap.size wS wq ∧ RowKit.Hid (∀ k2, k2 < k → ¬ FitE [a0, a1, a2, a3, a4, a5] [b0, b1, b2, b3, b4, b5] pa pb pc pd (pr rs i) (pr rs k2))) (fun kv _ => i + 1 - (intOf kv).toNat)
          case atStart => exact ⟨0, Nat.zero_le _, rfl, hBi, Lib.hid (fun j hj => absurd hj (Nat.not_lt_zero j))⟩
          case round =>
            clear hBi
            obtain ⟨k, hk, rfl, hBk, hM⟩ := hrel
            by_cases hki : k ≤ i
            · have hkl : k < rs.length := by omega
              have hR := fun (W : World) (h : Below wS.heap.size wS W) => And.intro ((h.cell (p := ⟨bb, off + i * 2, none⟩) htb).trans (HTR.out i hil).1) (And.intro ((h.cell (p := ⟨bb, off + i * 2 + 1, none⟩) htb).trans (HTR.out i hil).2) (And.intro ((h.cell (p := ⟨bb, off + k * 2, none⟩) htb).trans (HTR.out k hkl).1) ((h.cell (p := ⟨bb, off + k * 2 + 1, none⟩) htb).trans (HTR.out k hkl).2)))
              obtain ⟨k1, k2⟩ := HIN.out k hkl
              obtain ⟨i1, i2⟩ := HI12.out
              have HFE := Lib.hid (show ∀ E G, E = pr rs i → G = pr rs k → (FitE [a0, a1, a2, a3, a4, a5] [b0, b1, b2, b3, b4, b5] pa pb pc pd (pr rs i) (pr rs k) ↔ FitE [a0, a1, a2, a3, a4, a5] [b0, b1, b2, b3, b4, b5] pa pb pc pd E G) from fun E G h1 h2 => by rw [h1, h2])
              skip
              have hMid := fun W => mid3_any (pr rs i).1 (pr rs i).2 (pr rs k).1 (pr rs k).2 W i1 i2 k1 k2
              have hFT : (FitE [a0, a1, a2, a3, a4, a5] [b0, b1, b2, b3, b4, b5] pa pb pc pd (pr rs i) (pr rs k)) ↔ (partE 2 (pr rs i).1 (pr rs i).2 (pr rs k).1 (pr rs k).2 = 0 ∧ HasT [a0, a1, a2, a3, a4, a5] pa pb (partN 2 (pr rs i).1 (pr rs i).2 (pr rs k).1 (pr rs k).2) (partD 2 (pr rs i).1 (pr rs i).2 (pr rs k).1 (pr rs k).2) ∧ HasT [b0, b1, b2, b3, b4, b5] (partN 2 (pr rs i).1 (pr rs i).2 (pr rs k).1 (pr rs k).2) (partD 2 (pr rs i).1 (pr rs i).2 (pr rs k).1 (pr rs k).2) pc pd) := Iff.rfl
              have hMD := part_rangeD 2 (pr rs i).1 (pr rs i).2 (pr rs k).1 (pr rs k).2
              have hMR := part_range 2 (pr rs i).1 (pr rs i).2 (pr rs k).1 (pr rs k).2
              skip
              generalize partN 2 (pr rs i).1 (pr rs i).2 (pr rs k).1 (pr rs k).2 = mN at hMid hFT hMR
              generalize partD 2 (pr rs i).1 (pr rs i).2 (pr rs k).1 (pr rs k).2 = mD at hMid hFT hMD
              generalize partE 2 (pr rs i).1 (pr rs i).2 (pr rs k).1 (pr rs k).2 = mE at hMid hFT
              have HFT := Lib.hid hFT
              clear hFT
              generalize (pr rs i).1 = e1 at hR hMid
              generalize (pr rs i).2 = e2 at hR hMid
              generalize (pr rs k).1 = g1 at hR hMid
              generalize (pr rs k).2 = g2 at hR hMid
              have HR := Lib.hid hR
              have HMid := Lib.hid hMid
              have HMR := Lib.hid hMR
              have HMD := Lib.hid hMD
              clear hR hMid i1 i2 k1 k2 hMR hMD HFE
              have hki2 : (k : Int) ≤ i := by omega
              have hkn : (k : Int) < rs.length := by omega
              have hkb : (k : Int) < 9 := by have := HLN.out; omega
              go_wp2_with fail
              refine wp_region_held_drew (S := Below wr.heap.size wr) (by kernel_rfl) (dbm.drawn1 (Below.refl _ _)) (fun hHeld => ?_)
              generalize wr.drew = wD at hHeld ⊢
              have hsz := hBk.size
              refine wpAnyH_take (i := 0) (v := ?_) rfl (by kernel_rfl) (by kernel_rfl) (by kernel_rfl) (fun _ _ _ h => h) (Or.inl ⟨by rfl, ?_⟩) hHeld ?_
              rotate_left
              · intro w hSw; obtain ⟨r1, r2, r3, r4⟩ := HR.out _ (hBk.trans (hSw.mono hsz)); go_simp; try with_reducible rfl
              try simp only [Act.put, List.getElem_toArray, List.getElem_cons_zero, List.getElem_cons_succ, List.setIfInBounds_toArray, List.set_cons_zero, List.set_cons_succ]
              refine wpAnyH_take (i := 1) (v := ?_) rfl (by kernel_rfl) (by kernel_rfl) (by kernel_rfl) (fun _ _ _ h => h) (Or.inl ⟨by rfl, ?_⟩) hHeld ?_
              rotate_left
              · intro w hSw; obtain ⟨r1, r2, r3, r4⟩ := HR.out _ (hBk.trans (hSw.mono hsz)); go_simp; try with_reducible rfl
              try simp only [Act.put, List.getElem_toArray, List.getElem_cons_zero, List.getElem_cons_succ, List.setIfInBounds_toArray, List.set_cons_zero, List.set_cons_succ]
              refine wpAnyH_take (i := 2) (v := ?_) rfl (by kernel_rfl) (by kernel_rfl) (by kernel_rfl) (fun _ _ _ h => h) (Or.inl ⟨by rfl, ?_⟩) hHeld ?_
              rotate_left
              · intro w hSw; obtain ⟨r1, r2, r3, r4⟩ := HR.out _ (hBk.trans (hSw.mono hsz)); go_simp; try with_reducible rfl
              try simp only [Act.put, List.getElem_toArray, List.getElem_cons_zero, List.getElem_cons_succ, List.setIfInBounds_toArray, List.set_cons_zero, List.set_cons_succ]
              refine wpAnyH_take (i := 3) (v := ?_) rfl (by kernel_rfl) (by kernel_rfl) (by kernel_rfl) (fun _ _ _ h => h) (Or.inl ⟨by rfl, ?_⟩) hHeld ?_
              rotate_left
              · intro w hSw; obtain ⟨r1, r2, r3, r4⟩ := HR.out _ (hBk.trans (hSw.mono hsz)); go_simp; try with_reducible rfl
              try simp only [Act.put, List.getElem_toArray, List.getElem_cons_zero, List.getElem_cons_succ, List.setIfInBounds_toArray, List.set_cons_zero, List.set_cons_succ]
              refine wpAnyH_take (i := 4) (v := ?_) rfl (by kernel_rfl) (by kernel_rfl) (by kernel_rfl) (fun _ _ _ h => h) (Or.inl ⟨by rfl, ?_⟩) hHeld ?_
              rotate_left
              · intro w hSw; obtain ⟨r1, r2, r3, r4⟩ := HR.out _ (hBk.trans (hSw.mono hsz)); go_simp; try with_reducible rfl
              try simp only [Act.put, List.getElem_toArray, List.getElem_cons_zero, List.getElem_cons_succ, List.setIfInBounds_toArray, List.set_cons_zero, List.set_cons_succ]
              refine wpAnyH_take (i := 5) (v := ?_) rfl (by kernel_rfl) (by kernel_rfl) (by kernel_rfl) (fun _ _ _ h => h) (Or.inl ⟨by rfl, ?_⟩) hHeld ?_
              rotate_left
              · intro w hSw; obtain ⟨r1, r2, r3, r4⟩ := HR.out _ (hBk.trans (hSw.mono hsz)); go_simp; try with_reducible rfl
              try simp only [Act.put, List.getElem_toArray, List.getElem_cons_zero, List.getElem_cons_succ, List.setIfInBounds_toArray, List.set_cons_zero, List.set_cons_succ]
              refine wpAnyH_take (i := 6) (v := ?_) rfl (by kernel_rfl) (by kernel_rfl) (by kernel_rfl) (fun _ _ _ h => h) (Or.inl ⟨by rfl, ?_⟩) hHeld ?_
              rotate_left
              · intro w hSw; obtain ⟨r1, r2, r3, r4⟩ := HR.out _ (hBk.trans (hSw.mono hsz)); go_simp; try with_reducible rfl
              try simp only [Act.put, List.getElem_toArray, List.getElem_cons_zero, List.getElem_cons_succ, List.setIfInBounds_toArray, List.set_cons_zero, List.set_cons_succ]
              refine wpAnyH_take (i := 7) (v := ?_) rfl (by kernel_rfl) (by kernel_rfl) (by kernel_rfl) (fun _ _ _ h => h) (Or.inl ⟨by rfl, ?_⟩) hHeld ?_
              rotate_left
              · intro w hSw; obtain ⟨r1, r2, r3, r4⟩ := HR.out _ (hBk.trans (hSw.mono hsz)); go_simp; try with_reducible rfl
              try simp only [Act.put, List.getElem_toArray, List.getElem_cons_zero, List.getElem_cons_succ, List.setIfInBounds_toArray, List.set_cons_zero, List.set_cons_succ]
              refine wpAnyH_ready (rs := [8, 12]) (by kernel_rfl) (by simp) (AllReadyH.cons rfl (fun K hK => ?_) (AllReadyH.cons rfl (fun K hK => ?_) AllReadyH.nil))
              · go_simp
                refine (HMid.out _).mono ?_
                rintro e u1 ⟨rfl, hB⟩
                refine hK.out _ _ (hHeld.trans (hB.mono hHeld.size)) (fun hNew => ?_)
                clear hB
                clear hHeld hK K
                have hHeld := hNew
                clear hNew
                try simp only [Act.put, List.getElem_toArray, List.getElem_cons_zero, List.getElem_cons_succ, List.setIfInBounds_toArray, List.set_cons_zero, List.set_cons_succ]
                refine wpAnyH_take (i := 9) (v := ?_) rfl (by kernel_rfl) (by kernel_rfl) (by kernel_rfl) (fun _ _ _ h => h) (Or.inl ⟨by rfl, ?_⟩) hHeld ?_
                rotate_left
                · intro w hSw; skip; go_simp; try with_reducible rfl
                try simp only [Act.put, List.getElem_toArray, List.getElem_cons_zero, List.getElem_cons_succ, List.setIfInBounds_toArray, List.set_cons_zero, List.set_cons_succ]
                refine wpAnyH_take (i := 10) (v := ?_) rfl (by kernel_rfl) (by kernel_rfl) (by kernel_rfl) (fun _ _ _ h => h) (Or.inl ⟨by rfl, ?_⟩) hHeld ?_
                rotate_left
                · intro w hSw; skip; go_simp; try with_reducible rfl
                try simp only [Act.put, List.getElem_toArray, List.getElem_cons_zero, List.getElem_cons_succ, List.setIfInBounds_toArray, List.set_cons_zero, List.set_cons_succ]
                refine wpAnyH_take (i := 11) (v := ?_) rfl (by kernel_rfl) (by kernel_rfl) (by kernel_rfl) (fun _ _ _ h => h) (Or.inl ⟨by rfl, ?_⟩) hHeld ?_
                rotate_left
                · intro w hSw; skip; go_simp; try with_reducible rfl
                try simp only [Act.put, List.getElem_toArray, List.getElem_cons_zero, List.getElem_cons_succ, List.setIfInBounds_toArray, List.set_cons_zero, List.set_cons_succ]
                refine wpAnyH_ready (rs := [12]) (by kernel_rfl) (by simp) (AllReadyH.cons rfl (fun K hK => ?_) AllReadyH.nil)
                go_simp
                have hT := hHeld.size
                have L := lies.made u1 49 #[.int .i64 0, .int .i64 0]
                have hAl := hHeld.trans ((bound.up1 u1 (.cells #[.int .i64 0, .int .i64 0] 49)).mono hHeld.size)
                refine hK.out _ _ hAl (fun hNew => ?_)
                clear hAl
                clear hHeld hK K
                have hHeld := hNew
                clear hNew
                try simp only [Act.put, List.getElem_toArray, List.getElem_cons_zero, List.getElem_cons_succ, List.setIfInBounds_toArray, List.set_cons_zero, List.set_cons_succ]
                generalize (World.heap u1).size = T at hT L ⊢
                generalize World.alloc u1 (.cells #[.int .i64 0, .int .i64 0] 49) = wA at L hHeld ⊢
                obtain ⟨c0, c1, g0, g1, cl⟩ := lies.two L
                refine wpAnyH_ready (rs := [13]) (by kernel_rfl) (by simp) (AllReadyH.cons rfl (fun K hK => ?_) AllReadyH.nil)
                go_simp
                replace hHeld := (hHeld.setCell (p := ⟨T, 0, none⟩) hT (.int .i64 mN)).setCell (p := ⟨T, 1, none⟩) hT (.int .i64 mD)
                replace L := put_two L (.int .i64 mN) (.int .i64 mD)
                refine hK.out _ _ hHeld (fun hNew => ?_)
                clear hHeld hK K
                have hHeld := hNew
                clear hNew
                try simp only [Act.put, List.getElem_toArray, List.getElem_cons_zero, List.getElem_cons_succ, List.setIfInBounds_toArray, List.set_cons_zero, List.set_cons_succ]
                generalize World.setCell (World.setCell (wA) ⟨T, 0, none⟩ (.int .i64 mN)) ⟨T, 1, none⟩ (.int .i64 mD) = wB at L hHeld ⊢
                refine wpAnyH_take (i := 14) (v := ?_) rfl (by kernel_rfl) (by kernel_rfl) (by kernel_rfl) (fun _ _ _ h => h) (Or.inl ⟨by rfl, ?_⟩) hHeld ?_
                rotate_left
                · intro w hSw; skip; go_simp; try with_reducible rfl
                try simp only [Act.put, List.getElem_toArray, List.getElem_cons_zero, List.getElem_cons_succ, List.setIfInBounds_toArray, List.set_cons_zero, List.set_cons_succ]
                refine wpAnyH_done (by kernel_rfl) ?_ _
                replace hBk := hBk.trans (hHeld.mono hsz)
                clear hHeld hT HR HMid hsz
                by_cases hz : mE = 0
                · subst hz
                  have F0 := lies.on_call D0 hBk
                  have F1 := lies.on_call D1 hBk
                  have F2 := lies.on_call D2 hBk
                  have Q0 := P0.on hBk
                  obtain ⟨⟨kF0_0, kF0_1, kF0_2, kF0_3, kF0_4, kF0_5⟩, -⟩ := six_cells F0
                  have kF0_l := lies.lt F0
                  obtain ⟨⟨kF1_0, kF1_1, kF1_2, kF1_3, kF1_4, kF1_5⟩, -⟩ := six_cells F1
                  have kF1_l := lies.lt F1
                  obtain ⟨⟨kF2_0, kF2_1, kF2_2, kF2_3⟩, -⟩ := four_cells F2
                  have kF2_l := lies.lt F2
                  obtain ⟨kL_0, kL_1, -, -, -⟩ := lies.two L
                  have kL_l := lies.lt L
                  go_wp2_with fail
                  clear kF0_0 kF0_1 kF0_2 kF0_3 kF0_4 kF0_5 kF0_l kF1_0 kF1_1 kF1_2 kF1_3 kF1_4 kF1_5 kF1_l kF2_0 kF2_1 kF2_2 kF2_3 kF2_l kL_0 kL_1 kL_l
                  clear F0 F1 F2 L
                  refine (fits_is a0 a1 a2 a3 a4 a5 b0 b1 b2 b3 b4 b5 pa pb pc pd mN mD wB Q0 TA.out TB.out (fit_six HF.out HMR.out HMD.out)).mono ?_
                  rintro e wF ⟨hBF, rb, rfl, hrb⟩
                  replace hBk := hBk.trans (hBF.mono hBk.size)
                  clear hBF Q0
                  cases rb with
                  | false =>
                    have HX := Lib.hid (show ¬ FitE [a0, a1, a2, a3, a4, a5] [b0, b1, b2, b3, b4, b5] pa pb pc pd (pr rs i) (pr rs k) from fun q => by have := hrb.2 (HFT.out.1 q).2; cases this)
                    clear hrb
                    go_wp2_with fail
                    go_roundw
                    case rel => exact ⟨k + 1, by omega, by go_num, hBk, Lib.hid (fun k2 hk2 => by
                      by_cases e : k2 < k
                      · exact hM.out k2 e
                      · have ek : k2 = k := by omega
                        rw [ek]; exact HX.out)⟩
                    case measure => simp [intOf]; omega
                  | true =>
                    have HX := Lib.hid (show FitE [a0, a1, a2, a3, a4, a5] [b0, b1, b2, b3, b4, b5] pa pb pc pd (pr rs i) (pr rs k) from HFT.out.2 (by refine ⟨?_, hrb.1 rfl⟩; first | rfl | trivial))
                    clear hrb
                    go_wp2_with fail
                    go_ret
                    refine ⟨DB.trans (hBk.mono DB.size), true, rfl, fun _ => ⟨i, k, hki, ?_, ?_⟩, fun _ => rfl⟩
                    · rw [HQ.out]; exact hil
                    · rw [HQ.out]; exact HX.out
                · have hbz : (mE == 0) = false := by simpa using hz
                  have HX := Lib.hid (show ¬ FitE [a0, a1, a2, a3, a4, a5] [b0, b1, b2, b3, b4, b5] pa pb pc pd (pr rs i) (pr rs k) from fun q => hz (HFT.out.1 q).1)
                  clear hz L
                  go_wp2_with fail
                  go_roundw
                  case rel => exact ⟨k + 1, by omega, by go_num, hBk, Lib.hid (fun k2 hk2 => by
                    by_cases e : k2 < k
                    · exact hM.out k2 e
                    · have ek : k2 = k := by omega
                      rw [ek]; exact HX.out)⟩
                  case measure => simp [intOf]; omega
              · go_simp
                have hT := hHeld.size
                have L := lies.made wD 49 #[.int .i64 0, .int .i64 0]
                have hAl := hHeld.trans ((bound.up1 wD (.cells #[.int .i64 0, .int .i64 0] 49)).mono hHeld.size)
                refine hK.out _ _ hAl (fun hNew => ?_)
                clear hAl
                clear hHeld hK K
                have hHeld := hNew
                clear hNew
                try simp only [Act.put, List.getElem_toArray, List.getElem_cons_zero, List.getElem_cons_succ, List.setIfInBounds_toArray, List.set_cons_zero, List.set_cons_succ]
                generalize (World.heap wD).size = T at hT L ⊢
                generalize World.alloc wD (.cells #[.int .i64 0, .int .i64 0] 49) = wA at L hHeld ⊢
                refine wpAnyH_ready (rs := [8]) (by kernel_rfl) (by simp) (AllReadyH.cons rfl (fun K hK => ?_) AllReadyH.nil)
                go_simp
                refine (HMid.out _).mono ?_
                rintro e u1 ⟨rfl, hB⟩
                replace L := lies.on_call L hB
                refine hK.out _ _ (hHeld.trans (hB.mono hHeld.size)) (fun hNew => ?_)
                clear hB
                clear hHeld hK K
                have hHeld := hNew
                clear hNew
                try simp only [Act.put, List.getElem_toArray, List.getElem_cons_zero, List.getElem_cons_succ, List.setIfInBounds_toArray, List.set_cons_zero, List.set_cons_succ]
                refine wpAnyH_take (i := 9) (v := ?_) rfl (by kernel_rfl) (by kernel_rfl) (by kernel_rfl) (fun _ _ _ h => h) (Or.inl ⟨by rfl, ?_⟩) hHeld ?_
                rotate_left
                · intro w hSw; skip; go_simp; try with_reducible rfl
                try simp only [Act.put, List.getElem_toArray, List.getElem_cons_zero, List.getElem_cons_succ, List.setIfInBounds_toArray, List.set_cons_zero, List.set_cons_succ]
                refine wpAnyH_take (i := 10) (v := ?_) rfl (by kernel_rfl) (by kernel_rfl) (by kernel_rfl) (fun _ _ _ h => h) (Or.inl ⟨by rfl, ?_⟩) hHeld ?_
                rotate_left
                · intro w hSw; skip; go_simp; try with_reducible rfl
                try simp only [Act.put, List.getElem_toArray, List.getElem_cons_zero, List.getElem_cons_succ, List.setIfInBounds_toArray, List.set_cons_zero, List.set_cons_succ]
                refine wpAnyH_take (i := 11) (v := ?_) rfl (by kernel_rfl) (by kernel_rfl) (by kernel_rfl) (fun _ _ _ h => h) (Or.inl ⟨by rfl, ?_⟩) hHeld ?_
                rotate_left
                · intro w hSw; skip; go_simp; try with_reducible rfl
                try simp only [Act.put, List.getElem_toArray, List.getElem_cons_zero, List.getElem_cons_succ, List.setIfInBounds_toArray, List.set_cons_zero, List.set_cons_succ]
                obtain ⟨c0, c1, g0, g1, cl⟩ := lies.two L
                refine wpAnyH_ready (rs := [13]) (by kernel_rfl) (by simp) (AllReadyH.cons rfl (fun K hK => ?_) AllReadyH.nil)
                go_simp
                replace hHeld := (hHeld.setCell (p := ⟨T, 0, none⟩) hT (.int .i64 mN)).setCell (p := ⟨T, 1, none⟩) hT (.int .i64 mD)
                replace L := put_two L (.int .i64 mN) (.int .i64 mD)
                refine hK.out _ _ hHeld (fun hNew => ?_)
                clear hHeld hK K
                have hHeld := hNew
                clear hNew
                try simp only [Act.put, List.getElem_toArray, List.getElem_cons_zero, List.getElem_cons_succ, List.setIfInBounds_toArray, List.set_cons_zero, List.set_cons_succ]
                generalize World.setCell (World.setCell (u1) ⟨T, 0, none⟩ (.int .i64 mN)) ⟨T, 1, none⟩ (.int .i64 mD) = wB at L hHeld ⊢
                refine wpAnyH_take (i := 14) (v := ?_) rfl (by kernel_rfl) (by kernel_rfl) (by kernel_rfl) (fun _ _ _ h => h) (Or.inl ⟨by rfl, ?_⟩) hHeld ?_
                rotate_left
                · intro w hSw; skip; go_simp; try with_reducible rfl
                try simp only [Act.put, List.getElem_toArray, List.getElem_cons_zero, List.getElem_cons_succ, List.setIfInBounds_toArray, List.set_cons_zero, List.set_cons_succ]
                refine wpAnyH_done (by kernel_rfl) ?_ _
                replace hBk := hBk.trans (hHeld.mono hsz)
                clear hHeld hT HR HMid hsz
                by_cases hz : mE = 0
                · subst hz
                  have F0 := lies.on_call D0 hBk
                  have F1 := lies.on_call D1 hBk
                  have F2 := lies.on_call D2 hBk
                  have Q0 := P0.on hBk
                  obtain ⟨⟨kF0_0, kF0_1, kF0_2, kF0_3, kF0_4, kF0_5⟩, -⟩ := six_cells F0
                  have kF0_l := lies.lt F0
                  obtain ⟨⟨kF1_0, kF1_1, kF1_2, kF1_3, kF1_4, kF1_5⟩, -⟩ := six_cells F1
                  have kF1_l := lies.lt F1
                  obtain ⟨⟨kF2_0, kF2_1, kF2_2, kF2_3⟩, -⟩ := four_cells F2
                  have kF2_l := lies.lt F2
                  obtain ⟨kL_0, kL_1, -, -, -⟩ := lies.two L
                  have kL_l := lies.lt L
                  go_wp2_with fail
                  clear kF0_0 kF0_1 kF0_2 kF0_3 kF0_4 kF0_5 kF0_l kF1_0 kF1_1 kF1_2 kF1_3 kF1_4 kF1_5 kF1_l kF2_0 kF2_1 kF2_2 kF2_3 kF2_l kL_0 kL_1 kL_l
                  clear F0 F1 F2 L
                  refine (fits_is a0 a1 a2 a3 a4 a5 b0 b1 b2 b3 b4 b5 pa pb pc pd mN mD wB Q0 TA.out TB.out (fit_six HF.out HMR.out HMD.out)).mono ?_
                  rintro e wF ⟨hBF, rb, rfl, hrb⟩
                  replace hBk := hBk.trans (hBF.mono hBk.size)
                  clear hBF Q0
                  cases rb with
                  | false =>
                    have HX := Lib.hid (show ¬ FitE [a0, a1, a2, a3, a4, a5] [b0, b1, b2, b3, b4, b5] pa pb pc pd (pr rs i) (pr rs k) from fun q => by have := hrb.2 (HFT.out.1 q).2; cases this)
                    clear hrb
                    go_wp2_with fail
                    go_roundw
                    case rel => exact ⟨k + 1, by omega, by go_num, hBk, Lib.hid (fun k2 hk2 => by
                      by_cases e : k2 < k
                      · exact hM.out k2 e
                      · have ek : k2 = k := by omega
                        rw [ek]; exact HX.out)⟩
                    case measure => simp [intOf]; omega
                  | true =>
                    have HX := Lib.hid (show FitE [a0, a1, a2, a3, a4, a5] [b0, b1, b2, b3, b4, b5] pa pb pc pd (pr rs i) (pr rs k) from HFT.out.2 (by refine ⟨?_, hrb.1 rfl⟩; first | rfl | trivial))
                    clear hrb
                    go_wp2_with fail
                    go_ret
                    refine ⟨DB.trans (hBk.mono DB.size), true, rfl, fun _ => ⟨i, k, hki, ?_, ?_⟩, fun _ => rfl⟩
                    · rw [HQ.out]; exact hil
                    · rw [HQ.out]; exact HX.out
                · have hbz : (mE == 0) = false := by simpa using hz
                  have HX := Lib.hid (show ¬ FitE [a0, a1, a2, a3, a4, a5] [b0, b1, b2, b3, b4, b5] pa pb pc pd (pr rs i) (pr rs k) from fun q => hz (HFT.out.1 q).1)
                  clear hz L
                  go_wp2_with fail
                  go_roundw
                  case rel => exact ⟨k + 1, by omega, by go_num, hBk, Lib.hid (fun k2 hk2 => by
                    by_cases e : k2 < k
                    · exact hM.out k2 e
                    · have ek : k2 = k := by omega
                      rw [ek]; exact HX.out)⟩
                  case measure => simp [intOf]; omega
            · obtain rfl : k = i + 1 := by omega
              have hki2 : ¬ ((i : Int) + 1 ≤ i) := by omega
              have hib : (i : Int) < 9 := by have := HLN.out; omega
              push_cast
              go_wp2_with fail
              go_roundw
              case rel => exact ⟨i + 1, by omega, by go_num, hBk, Lib.hid (fun i2 hi2 k hk => by
                by_cases e : i2 < i
                · exact hN.out i2 e k hk
                · have ei : i2 = i := by omega
                  rw [ei] at hk ⊢; exact hM.out k (by omega))⟩
              case measure => simp [intOf]; omega
        · obtain rfl : i = rs.length := by omega
          go_wp2_with fail
          go_ret
          refine ⟨DB.trans (hBi.mono DB.size), false, rfl, fun h => absurd h (by decide), fun ⟨i, k, hki, hil2, hf⟩ => ?_⟩
          rw [HQ.out] at hil2 hf
          exact (hN.out i hil2 k hki hf).elim
end Go.Proofs.YtngjkebmilpemaaDoor.claw
