/-
  What rallentandoref06 answers; each theorem names its conditions.
-/
import Derived.Test.YtkfnjdmjojodhaaDoorInclC
import Derived.Test.YtkfnjdmjojodhaaDoorTightC
namespace Go.Proofs.YtkfnjdmjojodhaaDoor.iref
open Go.ChangeShapes Go.WideShapes Go.ChangeAt Go.RowKit num rat dbm way Go.Proofs.YtkfnjdmjojodhaaDoor.tight Go.Proofs.YtkfnjdmjojodhaaDoor.incl Go.Proofs.YtkfnjdmjojodhaaDoor.tref
open bound hiding up
set_option linter.unusedVariables false
set_option linter.unusedSimpArgs false
set_option linter.unusedSectionVars false

/-- the bound that the times keep that do not keep one. -/
def oth (x : Int) : Int := mk (-(x / 2)) (!bS x)
theorem oth_fine {x : Int} (h : Fine x) (hx : x ≠ 9223372036854775807) : Fine (oth x) := by
  rcases h with h | h
  · exact (hx h).elim
  · refine .inr ?_
    unfold oth
    rw [mk_half]
    omega
theorem oth_parts (x : Int) : oth x / 2 = -(x / 2) ∧ oth x % 2 = 1 - x % 2 := by
  have h1 := mk_half (-(x / 2)) (!bS x)
  refine ⟨h1, ?_⟩
  unfold oth mk bS
  by_cases h : x % 2 = 0
  · first | (simp [h]; done) | (simp [h]; omega)
  · first | (simp [h]; done) | (simp [h]; omega)
section
variable {n : Nat} {ts us : List Int} (h0 : 0 < n) (hn : n ≤ 4) (hl : ts.length = n * n) (hu : us.length = n * n) (htop : Tops ts) (hto : Tops us) (ht : MayD n ts) (hm : MayD n us)
include h0 hn hl hu htop hto ht hm
/-- one lies in another one just if it has nothing in common with what each bound leaves out. -/
theorem out_iff (h : OkD n ts) {i j : Nat} (hi : i < n) (hj : j < n) (hx : tat us n i j ≠ 9223372036854775807) : ¬ OkD n (lesT ts (oneT n j i (oth (tat us n i j)))) ↔ tat (clT n ts) n i j ≤ tat us n i j := by
  have hf := fine_at hu hn hm.2.2.2 hi hj
  generalize tat us n i j = x at hf hx ⊢
  have ho := oth_fine hf hx
  have hot := fine_top ho
  have hK := like_one h0 hn hl htop ht hj hi ho
  have hsl : (setT ts (j * n + i) (oth x)).length = n * n := (setT_length _ _ _).trans hl
  have hg := clo_good h0 hn hl htop h
  have hb : beg n (setT ts (j * n + i) (oth x)) = put (beg n ts) j i (cod (oth x)) := by
    funext a b
    exact beg_set hn hl htop hj hi hot a b
  rw [hK.2.2.1, okD_good h0 hn hsl (setT_tops htop _ _) (setT_may ht _ ho), hb, ← put_good,
    put_iff hj hi (good_tri hg) (hg n (Nat.le_refl _)) (fun a ha => by rw [clo_one h0 hn hl htop h a ha]; exact le_refl _) (fun a ha b => F_out n ha)]
  have hoz : oth x ≠ 9223372036854775807 := by
    have := oth_parts x
    rcases hf with k | k
    · exact (hx k).elim
    · omega
  rw [← wts_closed h0 hn hl htop h, wts_in hi hj, cod_some hoz]
  have htt := tat_top (clT_tops (n := n) htop) n i j
  have hxt : x < 9223372036854775807 := by
    have := fine_top hf
    omega
  generalize tat (clT n ts) n i j = t at htt ⊢
  obtain ⟨o1, o2⟩ := oth_parts x
  by_cases htz : t = 9223372036854775807
  · rw [htz, cod_none, none_ad]
    exact ⟨fun k => (k (le_none _)).elim, fun k => by omega⟩
  · rw [cod_some htz, ad_some]
    show ¬ ((1 : Int) ≤ 2 * (t / 2 + oth x / 2) + min (t % 2) (oth x % 2)) ↔ _
    rw [o1, o2]
    omega
theorem inside_iff : inV n ts us ↔ ∀ p, p < n * n → us[p]?.getD 0 ≠ 9223372036854775807 → ¬ OkD n (lesT ts (oneT n (p % n) (p / n) (oth (us[p]?.getD 0)))) := by
  by_cases h : OkD n ts
  · constructor
    · intro k p hp hx
      have hi := (Nat.div_lt_iff_lt_mul h0).2 hp
      have hj := Nat.mod_lt p h0
      have e : p / n * n + p % n = p := by rw [Nat.mul_comm]; exact Nat.div_add_mod p n
      have et : tat us n (p / n) (p % n) = us[p]?.getD 0 := by unfold tat; rw [e]
      have ec : tat (clT n ts) n (p / n) (p % n) = (clT n ts)[p]?.getD 0 := by unfold tat; rw [e]
      rw [← et] at hx ⊢
      rw [out_iff h0 hn hl hu htop hto ht hm h hi hj hx, et, ec]
      exact k h p (by rw [hl]; exact hp)
    · intro k _ p hp
      rw [hl] at hp
      have hi := (Nat.div_lt_iff_lt_mul h0).2 hp
      have hj := Nat.mod_lt p h0
      have e : p / n * n + p % n = p := by rw [Nat.mul_comm]; exact Nat.div_add_mod p n
      have et : tat us n (p / n) (p % n) = us[p]?.getD 0 := by unfold tat; rw [e]
      have ec : tat (clT n ts) n (p / n) (p % n) = (clT n ts)[p]?.getD 0 := by unfold tat; rw [e]
      by_cases hx : us[p]?.getD 0 = 9223372036854775807
      · rw [hx, ← ec]
        exact tat_top (clT_tops (n := n) htop) n _ _
      · have := k p hp hx
        rw [← et] at hx this
        rw [out_iff h0 hn hl hu htop hto ht hm h hi hj hx, et, ec] at this
        exact this
  · refine ⟨fun _ p hp hx ho => h ?_, fun _ k => (h k).elim⟩
    have hi := (Nat.div_lt_iff_lt_mul h0).2 hp
    have hj := Nat.mod_lt p h0
    have e : p / n * n + p % n = p := by rw [Nat.mul_comm]; exact Nat.div_add_mod p n
    have hf : Fine (us[p]?.getD 0) := hm.2.2.2 p (by rw [hu]; exact hp)
    have hof := oth_fine hf hx
    have hom := one_fine h0 hn hj hi hof
    refine les_left ht hom htop (tops_at fun q hq => ?_) ho
    exact fine_top (hom.2.2.2 q hq)
end
theorem one_tops {n i j : Nat} {x : Int} (h0 : 0 < n) (hn : n ≤ 4) (hi : i < n) (hj : j < n) (hx : Fine x) : Tops (oneT n i j x) := tops_at fun q hq => fine_top ((one_fine h0 hn hi hj hx).2.2.2 q hq)

end Go.Proofs.YtkfnjdmjojodhaaDoor.iref

namespace Go.Proofs.YtkfnjdmjojodhaaDoor.iref
open Go.ChangeShapes Go.WideShapes Go.ChangeAt Go.RowKit num rat dbm way Go.Proofs.YtkfnjdmjojodhaaDoor.tight Go.Proofs.YtkfnjdmjojodhaaDoor.incl Go.Proofs.YtkfnjdmjojodhaaDoor.tref Go.Proofs.YtkfnjdmjojodhaaDoor.tlaw
open bound hiding up
set_option linter.unusedVariables false
set_option linter.unusedSimpArgs false

/-- is there nothing in common with what a bound leaves out? -/
def Out (n : Nat) (ts us : List Int) (p : Nat) : Prop := us[p]?.getD 0 ≠ 9223372036854775807 → ¬ OkD n (lesT ts (oneT n (p % n) (p / n) (oth (us[p]?.getD 0))))
end Go.Proofs.YtkfnjdmjojodhaaDoor.iref

namespace Go.Proofs.YtkfnjdmjojodhaaDoor.iref
open Go.ChangeShapes Go.WideShapes Go.ChangeAt Go.RowKit num rat dbm way Go.Proofs.YtkfnjdmjojodhaaDoor.tight Go.Proofs.YtkfnjdmjojodhaaDoor.incl Go.Proofs.YtkfnjdmjojodhaaDoor.tref Go.Proofs.YtkfnjdmjojodhaaDoor.tlaw
open bound hiding up
set_option linter.unusedVariables false
set_option linter.unusedSimpArgs false

/-! a time and a number more -/
/-! the times the other way round -/
theorem p8_neg (X : Int) : p8 (-X) = -(p8 X) ∧ q8 (-X) = q8 X := by
  have h1 := low_parts X 8 (by decide)
  have h2 := low_parts (-X) 8 (by decide)
  have h3 := cross8 X
  have h4 := cross8 (-X)
  refine low_unique (p := p8 (-X)) (q := q8 (-X)) (p' := -(p8 X)) (q' := q8 X) h2.2.2.2 (by rw [Int.neg_gcd]; exact h1.2.2.2) (q8_in _).1 (q8_in _).1 ?_
  have e1 : (p8 (-X) * q8 X) * 8 = (-X * q8 (-X)) * q8 X := by rw [← h4]; ac_rfl
  have e2 : (-(p8 X) * q8 (-X)) * 8 = -(X * q8 X) * q8 (-X) := by rw [← h3]; rw [Int.neg_mul, Int.neg_mul, Int.neg_mul]; congr 1; ac_rfl
  have e3 : -X * q8 (-X) * q8 X = -(X * q8 X) * q8 (-X) := by rw [Int.neg_mul, Int.neg_mul, Int.neg_mul]; congr 1; ac_rfl
  omega
theorem near_neg {X : Int} (h : Near X) : Near (-X) := by
  obtain ⟨⟨h1, h2⟩, h3⟩ := h
  refine ⟨⟨by omega, by omega⟩, ?_⟩
  rcases h3 with h | h
  · exact .inl (by omega)
  · exact .inr (by omega)
theorem endC_neg {X : Nat → Int} {t : Nat → B} : ∀ k, endC (-1) (fun j => -(X j)) t k = endC 1 X t k := by
  intro k
  induction k with
  | zero => rfl
  | succ k ih =>
    show mnE _ _ = mnE _ _
    rw [ih]
    congr 1
    unfold cand
    cases t k with
    | none => rfl
    | some a =>
      show some (2 * (-1 * -(X k)) + 16 * (a / 2) + a % 2) = some (2 * (1 * X k) + 16 * (a / 2) + a % 2)
      congr 1
      omega
end Go.Proofs.YtkfnjdmjojodhaaDoor.iref

namespace Go.Proofs.YtkfnjdmjojodhaaDoor.iref
open Go.ChangeShapes Go.WideShapes Go.ChangeAt Go.RowKit num rat dbm way Go.Proofs.YtkfnjdmjojodhaaDoor.tight Go.Proofs.YtkfnjdmjojodhaaDoor.incl Go.Proofs.YtkfnjdmjojodhaaDoor.tlaw
open bound hiding up
set_option linter.unusedVariables false
set_option linter.unusedSimpArgs false

/-- times the other way round. -/
def negs (X : Nat → Int) (k : Nat) : List (Int × Int) := (List.range k).map fun j => (p8 (-(X j)), q8 (-(X j)))
theorem negs_length (X : Nat → Int) (k : Nat) : (negs X k).length = k := by simp [negs]
theorem negs_at (X : Nat → Int) {k j : Nat} (h : j < k) : pr (negs X k) j = (p8 (-(X j)), q8 (-(X j))) := by
  unfold pr negs
  rw [List.getElem?_map, List.getElem?_range h]
  rfl
theorem flat_negs (X : Nat → Int) (k : Nat) : flat (negs X (k + 1)) = flat (negs X k) ++ [.int .i64 (p8 (-(X k))), .int .i64 (q8 (-(X k)))] := by
  unfold negs
  rw [List.range_succ, List.map_append]
  simp [flat, List.flatMap_append]
/-! the matrix of the times the other way round -/
/-- its first bounds. -/
def trT (n : Nat) (us : List Int) (k : Nat) : List Int := (List.range k).map fun p => us[(p % n) * n + p / n]?.getD 0
theorem trT_up (n : Nat) (us : List Int) (k : Nat) : (trT n us (k + 1)).map (Value.int .i64) = (trT n us k).map (Value.int .i64) ++ [.int .i64 (us[(k % n) * n + k / n]?.getD 0)] := by
  unfold trT
  rw [List.range_succ, List.map_append, List.map_append]
  rfl
theorem trT_length (n : Nat) (us : List Int) (k : Nat) : (trT n us k).length = k := by simp [trT]
theorem trT_at (n : Nat) (us : List Int) {k p : Nat} (h : p < k) : (trT n us k)[p]?.getD 0 = us[(p % n) * n + p / n]?.getD 0 := by
  unfold trT
  rw [List.getElem?_map, List.getElem?_range h]
  rfl
theorem trT_tat {n : Nat} (us : List Int) (hn : n ≤ 4) {i j : Nat} (hi : i < n) (hj : j < n) : tat (trT n us (n * n)) n i j = tat us n j i := by
  have h0 : 0 < n := by omega
  have e1 : (i * n + j) % n = j := by rw [Nat.add_comm, Nat.add_mul_mod_self_right]; exact Nat.mod_eq_of_lt hj
  have e2 : (i * n + j) / n = i := by rw [Nat.add_comm, Nat.add_mul_div_right _ _ h0, Nat.div_eq_of_lt hj]; omega
  unfold tat
  rw [trT_at n us (place_le hn hi hj), e1, e2]
/-- what lies there while it is written. -/
def OI (n b off cap : Nat) (us : List Int) (k : Nat) (w W : World) : Prop := ∃ v, lies.Lies W w.heap.size 64 #[.int .i64 n, .slice (some ⟨b, off, none⟩) (n * n) cap] ∧ lies.Lies W (w.heap.size + 1) 64 #[.int .i64 0, .slice none 0 0] ∧ lies.Lies W (w.heap.size + 1 + 1) 64 #[.int .i64 n, v] ∧ W.ownsRow (w.heap.size + 1 + 1 + 1) 22 1 v k ((trT n us k).map (Value.int .i64)) ∧ Below w.heap.size w W
end Go.Proofs.YtkfnjdmjojodhaaDoor.iref

namespace Go.Proofs.YtkfnjdmjojodhaaDoor.iref
open Go.ChangeShapes Go.WideShapes Go.ChangeAt Go.RowKit num rat dbm way Go.Proofs.YtkfnjdmjojodhaaDoor.tight Go.Proofs.YtkfnjdmjojodhaaDoor.incl Go.Proofs.YtkfnjdmjojodhaaDoor.tlaw
open bound hiding up
set_option linter.unusedVariables false
set_option linter.unusedSimpArgs false

/-- a low end, as it is told: whether there is one, where, and whether it is strict. -/
def lowT : Option Int → Bool × Int × Int × Bool
  | none => (false, 0, 1, false)
  | some e => (true, p8 (-1 * (e / 2)), q8 (-1 * (e / 2)), decide (e % 2 = 0))
/-- what lies there while it is told. -/
def LI (n b off cap : Nat) (A B : Int) (w W : World) : Prop := lies.Lies W w.heap.size 64 #[.int .i64 n, .slice (some ⟨b, off, none⟩) (n * n) cap] ∧ lies.Lies W (w.heap.size + 1) 40 #[.int .i64 0, .int .i64 0] ∧ lies.Lies W (w.heap.size + 1 + 1) 40 #[.int .i64 A, .int .i64 B] ∧ Below w.heap.size w W
theorem LI.below {n b off cap : Nat} {A B : Int} {w W X : World} (h : LI n b off cap A B w W) (k : Below W.heap.size W X) : LI n b off cap A B w X := ⟨lies.on_call h.1 k, lies.on_call h.2.1 k, lies.on_call h.2.2.1 k, h.2.2.2.trans (k.mono h.2.2.2.size)⟩
theorem LI.far {n b off cap : Nat} {A B : Int} {w W : World} (h : LI n b off cap A B w W) {g : Nat} (hg : w.heap.size + 1 + 1 < g) (i : Nat) (u : Value) : LI n b off cap A B w (W.setCell ⟨g, i, none⟩ u) := ⟨lies.on_far h.1 (b := g) i (by omega) u, lies.on_far h.2.1 (b := g) i (by omega) u, lies.on_far h.2.2.1 (b := g) i (by omega) u, h.2.2.2.setCell (p := ⟨g, i, none⟩) (by dsimp only; omega) u⟩
theorem LI.put {n b off cap : Nat} {A B : Int} {w W : World} (h : LI n b off cap A B w W) (P Q : Int) : LI n b off cap P Q w ((W.setCell ⟨w.heap.size + 1 + 1, 0, none⟩ (.int .i64 P)).setCell ⟨w.heap.size + 1 + 1, 1, none⟩ (.int .i64 Q)) :=
  ⟨lies.on_far (lies.on_far h.1 (b := w.heap.size + 1 + 1) 0 (by omega) _) (b := w.heap.size + 1 + 1) 1 (by omega) _, lies.on_far (lies.on_far h.2.1 (b := w.heap.size + 1 + 1) 0 (by omega) _) (b := w.heap.size + 1 + 1) 1 (by omega) _, lies.on_put (lies.on_put h.2.2.1 0 (.int .i64 P)) 1 (.int .i64 Q), (h.2.2.2.setCell (p := ⟨w.heap.size + 1 + 1, 0, none⟩) (by dsimp only; omega) _).setCell (p := ⟨w.heap.size + 1 + 1, 1, none⟩) (by dsimp only; omega) _⟩
/-- where it is, in eighths. -/
def lowY : Option Int → Int
  | none => 0
  | some e => -1 * (e / 2)
theorem lowT_near {o : Option Int} (h : NearE (-1) o) : Near (lowY o) ∧ (lowT o).2.1 = p8 (lowY o) ∧ (lowT o).2.2.1 = q8 (lowY o) := by
  cases o with
  | none => exact ⟨⟨by decide, by decide⟩, eight_zero.1.symm, eight_zero.2.symm⟩
  | some e => exact ⟨h, rfl, rfl⟩
end Go.Proofs.YtkfnjdmjojodhaaDoor.iref

namespace Go.Proofs.YtkfnjdmjojodhaaDoor.iref
open Go.ChangeShapes Go.WideShapes Go.ChangeAt Go.RowKit num rat dbm way Go.Proofs.YtkfnjdmjojodhaaDoor.tight Go.Proofs.YtkfnjdmjojodhaaDoor.incl Go.Proofs.YtkfnjdmjojodhaaDoor.tlaw
open bound hiding up
set_option linter.unusedVariables false
set_option linter.unusedSimpArgs false

theorem fit_neg {x z : Int} (h : Fit 1 x z) : Fit (-1) (-x) z := by
  rcases h with h | ⟨h1, h2, h3⟩
  · exact .inl h
  · refine .inr ⟨h1, near_neg h2, ?_⟩
    have := near_neg h3
    rw [show -(x + 8 * (1 * (z / 2))) = -x + 8 * (-1 * (z / 2)) by omega] at this
    exact this
end Go.Proofs.YtkfnjdmjojodhaaDoor.iref

namespace Go.Proofs.YtkfnjdmjojodhaaDoor.iref
open Go.ChangeShapes Go.WideShapes Go.ChangeAt Go.RowKit num rat dbm way Go.Proofs.YtkfnjdmjojodhaaDoor.tight Go.Proofs.YtkfnjdmjojodhaaDoor.incl Go.Proofs.YtkfnjdmjojodhaaDoor.tlaw
open bound hiding up
set_option linter.unusedVariables false
set_option linter.unusedSimpArgs false

/-- what lies there while times are picked. -/
def Pr (n CB cg cc base : Nat) (us : List Int) (D : Tab) (k : Nat) (v : Value) (w W : World) : Prop :=
  lies.Lies W CB 64 #[.int .i64 n, .slice (some ⟨cg, 0, none⟩) (n * n) cc] ∧ Row W cg 0 us ∧ Below w.heap.size w W ∧ W.ownsRow base 40 2 v (k + 1) (flat (rsOf D k)) ∧ base ≤ W.heap.size
theorem Pr.below {n CB cg cc base : Nat} {us : List Int} {D : Tab} {k : Nat} {v : Value} {w W X : World} (h : Pr n CB cg cc base us D k v w W) (hcg : cg < base) (q : Below W.heap.size W X) : Pr n CB cg cc base us D k v w X :=
  ⟨lies.on_call h.1 q, h.2.1.below q (Nat.lt_of_lt_of_le hcg h.2.2.2.2), h.2.2.1.trans (q.mono h.2.2.1.size), incl.own_call h.2.2.2.1 q, Nat.le_trans h.2.2.2.2 q.size⟩
theorem Pr.push {n CB cg cc base : Nat} {us : List Int} {D : Tab} {k : Nat} {v v' : Value} {w W W' : World} {o : Obj} (h : Pr n CB cg cc base us D k v w W) (hwb : w.heap.size ≤ base) (hcb : CB < base) (hcg : cg < base)
    (hown : W'.ownsRow base 40 2 v' (k + 1 + 1) (flat (rsOf D k) ++ [.int .i64 (p8 (px D (k + 1))), .int .i64 (q8 (px D (k + 1)))])) (hgrow : (W.alloc o).grownBy W' v.ownBlock) : Pr n CB cg cc base us D (k + 1) v' w W' := by
  obtain ⟨h1, h2, h3, h4, h5⟩ := h
  have hb : ∀ q, v.ownBlock = some q → base ≤ q := fun q e => (h4.lt q e).1
  have hBB : Below base W W' := ((bound.up1 W o).mono h5).grown hgrow (by simp; omega) hb
  refine ⟨?_, h2.below hBB hcg, (lies.frame_up h3 o).grown hgrow (by have := h3.size; simp; omega) (fun q e => Nat.le_trans hwb (hb q e)), ?_, ?_⟩
  · exact (hBB.block CB hcb).trans h1
  · rw [flat_up1]; exact hown
  · have := hgrow.size; simp at this; omega
end Go.Proofs.YtkfnjdmjojodhaaDoor.iref
