/-
  The ends of a clock, and Pick, as package incl answers them; each theorem names its conditions.
-/
import Derived.Test.YtkfnjdmjojodhaaDoorInclA
namespace Go.Proofs.YtkfnjdmjojodhaaDoor.incl
open Go.ChangeShapes Go.WideShapes Go.ChangeAt Go.RowKit num rat dbm
open bound hiding up
set_option linter.unusedVariables false
set_option linter.unusedSimpArgs false

/-- the cells of an end. -/
def endL (s : Int) : Option Int → Array Value
  | none => #[.bool false, .int .i64 0, .int .i64 0, .bool false]
  | some e => #[.bool true, .int .i64 (p8 (s * (e / 2))), .int .i64 (q8 (s * (e / 2))), .bool (decide (e % 2 = 0))]
theorem endL_v (s : Int) (x : Option Int) : endV s x = .agg (endL s x) := by cases x <;> rfl
theorem endL_four (s : Int) (x : Option Int) : ∃ (a d : Bool) (b c : Int), endL s x = #[.bool a, .int .i64 b, .int .i64 c, .bool d] ∧ endV s x = .agg #[.bool a, .int .i64 b, .int .i64 c, .bool d] := by
  cases x with
  | none => exact ⟨_, _, _, _, rfl, rfl⟩
  | some e => exact ⟨_, _, _, _, rfl, rfl⟩

/-- ends that are told so far are near. -/
theorem endC_near {s : Int} (hs : s = 1 ∨ s = -1) {X : Nat → Int} {t : Nat → Int} {k : Nat} (h : ∀ j, j < k → t j = 9223372036854775807 ∨ Near (X j + 8 * (s * (t j / 2)))) : ∀ j, j ≤ k → NearE s (endC s X (fun j => cod (t j)) j) := by
  intro j hj
  cases e : endC s X (fun j => cod (t j)) j with
  | none => trivial
  | some v =>
    obtain ⟨i, hi, a, ha, rfl⟩ := endC_is j e
    have ha' : cod (t i) = some a := ha
    rcases h i (by omega) with k | k
    · rw [k, cod_none] at ha'; cases ha'
    · by_cases n : t i = 9223372036854775807
      · rw [n, cod_none] at ha'; cases ha'
      · rw [cod_some n] at ha'
        have := Option.some.inj ha'
        subst this
        show Near (s * ((2 * (s * X i) + 16 * (t i / 2) + t i % 2) / 2))
        have e : s * ((2 * (s * X i) + 16 * (t i / 2) + t i % 2) / 2) = X i + 8 * (s * (t i / 2)) := by rcases hs with rfl | rfl <;> omega
        rw [e]
        exact k

end Go.Proofs.YtkfnjdmjojodhaaDoor.incl

namespace Go.Proofs.YtkfnjdmjojodhaaDoor.incl
open Go.ChangeShapes Go.WideShapes Go.ChangeAt Go.RowKit num rat dbm
open bound hiding up
set_option linter.unusedVariables false
set_option linter.unusedSimpArgs false

/-- may a bound be added to a time? -/
def Fit (s x z : Int) : Prop := z = 9223372036854775807 ∨ (May (z / 2) ∧ Near x ∧ Near (x + 8 * (s * (z / 2))))
theorem far4 {W : World} {g q : Nat} {t : TypeId} {cs : Array Value} (h : lies.Lies W g t cs) (hne : g ≠ q) (a b c d : Value) : lies.Lies ((((W.setCell ⟨q, 0, none⟩ a).setCell ⟨q, 1, none⟩ b).setCell ⟨q, 2, none⟩ c).setCell ⟨q, 3, none⟩ d) g t cs :=
  lies.on_far (lies.on_far (lies.on_far (lies.on_far h (b := q) 0 hne a) (b := q) 1 hne b) (b := q) 2 hne c) (b := q) 3 hne d
end Go.Proofs.YtkfnjdmjojodhaaDoor.incl

namespace Go.Proofs.YtkfnjdmjojodhaaDoor.incl
open Go.ChangeShapes Go.WideShapes Go.ChangeAt Go.RowKit num rat dbm way
open bound hiding up
set_option linter.unusedVariables false
set_option linter.unusedSimpArgs false

/-! what is known of the closed table of a matrix -/
section
variable {n : Nat} {ts : List Int} (h0 : 0 < n) (hn : n ≤ 4) (hl : ts.length = n * n) (htop : Tops ts) (h : OkD n ts)
include h0 hn hl htop h
theorem wts_closed : wts n (clT n ts) = F (beg n ts) n := by
  have hne : ∀ k, k ≤ n → ¬ emp n (tabs n h0 ts k) := fun k hk => h.2.2 k (by simpa using hk)
  rw [clT_nat h0]
  funext i j
  by_cases hij : i < n ∧ j < n
  · rw [wts_in hij.1 hij.2]
    exact tabs_is h0 hn hl htop h.1.2.2.2 n (Nat.le_refl _) (fun m hm => hne m (by omega)) i j hij.1 hij.2
  · rw [← beg_closed h0 hn hl htop h]
    have e1 : beg n (tabs n h0 ts n) i j = none := if_neg hij
    have e2 : wts n (tabs n h0 ts n) i j = none := if_neg hij
    rw [e1, e2]
theorem clo_good : way.Good (beg n ts) n := (okD_good h0 hn hl htop h.1).1 h
theorem clo_one (i : Nat) (hi : i < n) : F (beg n ts) n i i = way.one := by
  have hne : ∀ k, k ≤ n → ¬ emp n (tabs n h0 ts k) := fun k hk => h.2.2 k (by simpa using hk)
  rw [← wts_closed h0 hn hl htop h, wts_in hi hi, clT_nat h0, closed_diag h0 hn hl htop h.1.2.2.2 hne hi]
  rfl
theorem clo_px {u : Nat} (hu : u < n) : -6917529027641081880 ≤ px (wts n (clT n ts)) u ∧ px (wts n (clT n ts)) u ≤ 6917529027641081880 := by
  rw [wts_closed h0 hn hl htop h]
  have := px_within hn (M := 288230376151711744) (by decide) (fun i j => beg_wi hl hn h.1.2.2.2 i j) (fun i j hi => wts_out hi) (fun i j hj => wts_out2 hj) (clo_good h0 hn hl htop h) (clo_one h0 hn hl htop h) hu
  omega
theorem clo_wi {i j : Nat} (hi : i < n) {a : Int} (e : wts n (clT n ts) i j = some a) : -1152921504606846976 ≤ a / 2 ∧ a / 2 ≤ 1152921504606846976 := by
  rw [wts_closed h0 hn hl htop h] at e
  have := F_within1 (M := 288230376151711744) (by decide) (fun i j => beg_wi hl hn h.1.2.2.2 i j) (clo_good h0 hn hl htop h) hi j
  rw [e] at this
  have h1 : -(288230376151711744 * (n : Int)) ≤ a / 2 := this.1
  have h2 : a / 2 ≤ 288230376151711744 * (n : Int) := this.2
  omega
theorem clo_near {u : Nat} (hu : u < n) : Near (px (wts n (clT n ts)) u) := by
  have := clo_px h0 hn hl htop h hu
  exact ⟨⟨by omega, by omega⟩, .inr ⟨by omega, by omega⟩⟩
theorem clo_fit {s : Int} (hs : s = 1 ∨ s = -1) {i j k : Nat} (hi : i < n) (hj : j < n) (hk : k < 3) (hkn : k < n) : Fit s (px (wts n (clT n ts)) k) (tat (clT n ts) n i j) := by
  by_cases hz : tat (clT n ts) n i j = 9223372036854775807
  · exact .inl hz
  · have e : wts n (clT n ts) i j = some (tat (clT n ts) n i j) := by rw [wts_in hi hj, cod_some hz]
    have h1 := clo_wi h0 hn hl htop h hi e
    have h2 := clo_px h0 hn hl htop h hkn
    have h3 := px_even (wts n (clT n ts)) hk
    generalize tat (clT n ts) n i j = z at hz h1 ⊢
    refine .inr ⟨⟨by omega, by omega⟩, ⟨⟨by omega, by omega⟩, .inl h3⟩, ?_⟩
    rcases hs with rfl | rfl
    · exact ⟨⟨by omega, by omega⟩, .inl (by omega)⟩
    · exact ⟨⟨by omega, by omega⟩, .inl (by omega)⟩
end

/-- the times that are picked, so far. -/
def rsOf (D : Tab) (k : Nat) : List (Int × Int) := (xs D k).map fun X => (p8 X, q8 X)
theorem rsOf_length (D : Tab) (k : Nat) : (rsOf D k).length = k + 1 := by unfold rsOf; rw [List.length_map, xs_length]
theorem rsOf_at (D : Tab) {k j : Nat} (h : j ≤ k) : pr (rsOf D k) j = (p8 (px D j), q8 (px D j)) := by
  unfold pr rsOf
  rw [List.getElem?_map, ← xs_at D k j h]
  have : j < (xs D k).length := by rw [xs_length]; omega
  rw [List.getElem?_eq_getElem this]
  rfl
theorem rsOf_up (D : Tab) (k : Nat) : rsOf D (k + 1) = rsOf D k ++ [(p8 (px D (k + 1)), q8 (px D (k + 1)))] := by
  have e : xs D (k + 1) = xs D k ++ [px D (k + 1)] := by
    have h1 : xs D (k + 1) = xs D k ++ [btw (endC (-1) (fun j => (xs D k)[j]?.getD 0) (fun j => D j (k + 1)) (k + 1)) (endC 1 (fun j => (xs D k)[j]?.getD 0) (fun j => D (k + 1) j) (k + 1))] := rfl
    have h2 := xs_at D (k + 1) (k + 1) (Nat.le_refl _)
    rw [← h2]
    rw [h1, List.getElem?_append_right (by rw [xs_length]; omega), xs_length]
    simp
  unfold rsOf
  rw [e, List.map_append]
  rfl
theorem flat_up1 (D : Tab) (k : Nat) : flat (rsOf D (k + 1)) = flat (rsOf D k) ++ [.int .i64 (p8 (px D (k + 1))), .int .i64 (q8 (px D (k + 1)))] := by
  rw [rsOf_up]
  simp [flat, List.flatMap_append]

theorem own_call {W X : World} {base n s : Nat} {t : TypeId} {v : Value} {xs : List Value} (h : W.ownsRow base t s v n xs) (k : Below W.heap.size W X) : X.ownsRow base t s v n xs :=
  h.kept (row := none) ⟨k.os, k.tape, k.output, k.size, fun i hi _ => k.block i hi⟩ (by cases v.ownBlock <;> simp)
theorem two_new {W : World} {g : Nat} {t : TypeId} {x y : Value} (h : lies.Lies W g t #[x, y]) (p : Nat) (u : Value) (hp : [x, y][p]? = some u) : W.cell? ((⟨g, 0, none⟩ : Addr).add p) = some u := by
  have := lies.cell h p
  rcases p with _ | _ | p
  · cases hp; exact this
  · cases hp; exact this
  · simp at hp

/-- what lies there while times are picked: the closed matrix in a box, its bounds, and the times. -/
def Pi (n CB cg cc base : Nat) (us : List Int) (D : Tab) (k : Nat) (v : Value) (w W : World) : Prop :=
  lies.Lies W CB 64 #[.int .i64 n, .slice (some ⟨cg, 0, none⟩) (n * n) cc] ∧ lies.Lies W cg 22 (cellsOf us) ∧ Below w.heap.size w W ∧ W.ownsRow base 40 2 v (k + 1) (flat (rsOf D k)) ∧ base ≤ W.heap.size
theorem Pi.below {n CB cg cc base : Nat} {us : List Int} {D : Tab} {k : Nat} {v : Value} {w W X : World} (h : Pi n CB cg cc base us D k v w W) (q : Below W.heap.size W X) : Pi n CB cg cc base us D k v w X :=
  ⟨lies.on_call h.1 q, lies.on_call h.2.1 q, h.2.2.1.trans (q.mono h.2.2.1.size), own_call h.2.2.2.1 q, Nat.le_trans h.2.2.2.2 q.size⟩
theorem Pi.push {n CB cg cc base : Nat} {us : List Int} {D : Tab} {k : Nat} {v v' : Value} {w W W' : World} {o : Obj} (h : Pi n CB cg cc base us D k v w W) (hwb : w.heap.size ≤ base) (hcb : CB < base) (hcg : cg < base)
    (hown : W'.ownsRow base 40 2 v' (k + 1 + 1) (flat (rsOf D k) ++ [.int .i64 (p8 (px D (k + 1))), .int .i64 (q8 (px D (k + 1)))])) (hgrow : (W.alloc o).grownBy W' v.ownBlock) : Pi n CB cg cc base us D (k + 1) v' w W' := by
  obtain ⟨h1, h2, h3, h4, h5⟩ := h
  have hb : ∀ q, v.ownBlock = some q → base ≤ q := fun q e => (h4.lt q e).1
  refine ⟨?_, ?_, (lies.frame_up h3 o).grown hgrow (by have := h3.size; simp; omega) (fun q e => Nat.le_trans hwb (hb q e)), ?_, ?_⟩
  · exact (World.grownBy.block hgrow CB (lies.lt (lies.on_alloc h1 o)) (fun e => by have := hb CB e.symm; omega)).trans (lies.on_alloc h1 o)
  · exact (World.grownBy.block hgrow cg (lies.lt (lies.on_alloc h2 o)) (fun e => by have := hb cg e.symm; omega)).trans (lies.on_alloc h2 o)
  · rw [flat_up1]; exact hown
  · have := hgrow.size; simp at this; omega
theorem own_cap {W : World} {base g n cap s : Nat} {t : TypeId} {xs : List Value} (h : W.ownsRow base t s (.slice (some ⟨g, 0, none⟩) n cap) n xs) : n ≤ cap := by
  rcases h.2 with ⟨h, _⟩ | ⟨g', cap', cur, h, _, _, k, _⟩
  · cases h
  · cases h; exact k
/-- the times that are picked of a matrix. -/
def pks (m : Nat) (ts : List Int) : List (Int × Int) := (rsOf (wts m (clT m ts)) (m - 1)).drop 1
theorem pks_length (m : Nat) (ts : List Int) : (pks m ts).length = m - 1 := by unfold pks; rw [List.length_drop, rsOf_length]; omega
theorem pks_at (m : Nat) (ts : List Int) {j : Nat} (h : j < m - 1) : pr (pks m ts) j = (p8 (px (wts m (clT m ts)) (j + 1)), q8 (px (wts m (clT m ts)) (j + 1))) := by
  rw [← rsOf_at (wts m (clT m ts)) (k := m - 1) (j := j + 1) (by omega)]
  unfold pks pr
  rw [List.getElem?_drop, Nat.add_comm]
theorem pks_row {W : World} {g m : Nat} {ts : List Int} (h : RowR W g 0 (rsOf (wts m (clT m ts)) (m - 1))) : RowR W g 2 (pks m ts) := fun j hj => by
  rw [pks_length] at hj
  have := h (j + 1) (by rw [rsOf_length]; omega)
  rw [rsOf_at _ (by omega)] at this
  rw [pks_at m ts hj]
  rw [show 0 + (j + 1) * 2 = 2 + j * 2 by omega] at this
  exact this
/-- what Pick answers. -/
def Pk (n : Int) (ts : List Int) (w : World) (e : Ending) (w' : World) : Prop := Below w.heap.size w w' ∧ ∃ (v : Value) (f : Int), e = .returned (.tuple #[v, .int .i64 f]) ∧
  ((¬ OkD n ts ∧ v = .slice none 0 0 ∧ f = if MayD n ts then 6 else 8) ∨ (OkD n ts ∧ f = 0 ∧ ∃ m : Nat, n = (m : Int) ∧ Rats w'.heap.size w' v (pks m ts)))
end Go.Proofs.YtkfnjdmjojodhaaDoor.incl
