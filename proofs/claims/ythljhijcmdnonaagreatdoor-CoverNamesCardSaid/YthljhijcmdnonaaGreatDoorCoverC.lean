
/-
  Zones in their order, of which those that stand one behind the other more than once are kept once: pure; each theorem names its conditions.
-/
import Derived.Test.YthljhijcmdnonaaGreatDoorCoverA
import Derived.Test.YthljhijcmdnonaaGreatDoorMinusZ
namespace Go.Proofs.YthljhijcmdnonaaGreatDoor.cover
open way num rat dbm Go.Proofs.YthljhijcmdnonaaGreatDoor.tight Go.Proofs.YthljhijcmdnonaaGreatDoor.tkept Go.Proofs.YthljhijcmdnonaaGreatDoor.incl Go.Proofs.YthljhijcmdnonaaGreatDoor.zone Go.Proofs.YthljhijcmdnonaaGreatDoor.win Go.Proofs.YthljhijcmdnonaaGreatDoor.minus Go.Proofs.YthljhijcmdnonaaGreatDoor.mz
open bound hiding up
set_option linter.unusedVariables false
set_option linter.unusedSimpArgs false
set_option linter.unusedSectionVars false

/-- does the zone at a place differ from that ahead of it? -/
def kee (zs : List (List Int)) (i : Nat) : Bool := i == 0 || decide (zat zs i ≠ zat zs (i - 1))
/-- of the first j, those that do. -/
def cpt (zs : List (List Int)) (j : Nat) : List (List Int) := ((List.range j).filter (kee zs)).map (zat zs)
theorem cpt_zero (zs : List (List Int)) : cpt zs 0 = [] := rfl
theorem cpt_yes {zs : List (List Int)} {j : Nat} (h : kee zs j = true) : cpt zs (j + 1) = cpt zs j ++ [zat zs j] := by
  unfold cpt
  rw [List.range_succ, List.filter_append, List.map_append]
  simp [h]
theorem cpt_no {zs : List (List Int)} {j : Nat} (h : kee zs j = false) : cpt zs (j + 1) = cpt zs j := by
  unfold cpt
  rw [List.range_succ, List.filter_append, List.map_append]
  simp [h]
theorem kee_yes {zs : List (List Int)} {j : Nat} (h : zat zs (j + 1) ≠ zat zs j) : kee zs (j + 1) = true := by
  unfold kee
  simp [h]
theorem kee_no {zs : List (List Int)} {j : Nat} (h : zat zs (j + 1) = zat zs j) : kee zs (j + 1) = false := by
  unfold kee
  simp [h]
/-- as long as none is the same as that ahead of it, all are kept. -/
theorem cpt_all {zs : List (List Int)} : ∀ j, j ≤ zs.length → (∀ i, i + 1 < j → zat zs (i + 1) ≠ zat zs i) → cpt zs j = zs.take j
  | 0, _, _ => by rw [cpt_zero, List.take_zero]
  | j + 1, h, k => by
    have e : kee zs j = true := match j, k with
      | 0, _ => rfl
      | i + 1, k => kee_yes (k i (by omega))
    rw [cpt_yes e, cpt_all j (by omega) (fun i hi => k i (by omega)), List.take_add_one, List.getElem?_eq_getElem (by omega)]
    unfold zat
    rw [List.getElem?_eq_getElem (by omega)]
    rfl
theorem cpt_mem {zs : List (List Int)} (x : List Int) : ∀ j, j ≤ zs.length → (x ∈ cpt zs j ↔ ∃ i, i < j ∧ zat zs i = x)
  | 0, _ => ⟨fun h => (by cases h), fun ⟨i, h, _⟩ => absurd h (Nat.not_lt_zero i)⟩
  | j + 1, h => by
    have ih := cpt_mem (zs := zs) x j (by omega)
    cases e : kee zs j with
    | true =>
      rw [cpt_yes e, List.mem_append, ih, List.mem_singleton]
      refine ⟨fun q => q.elim (fun ⟨i, a, b⟩ => ⟨i, by omega, b⟩) (fun q => ⟨j, by omega, q.symm⟩), fun ⟨i, a, b⟩ => ?_⟩
      by_cases q : i = j
      · exact .inr (by rw [← b, q])
      · exact .inl ⟨i, by omega, b⟩
    | false =>
      rw [cpt_no e, ih]
      refine ⟨fun ⟨i, a, b⟩ => ⟨i, by omega, b⟩, fun ⟨i, a, b⟩ => ?_⟩
      by_cases q : i = j
      · match j, e with
        | 0, e => exact (by cases e)
        | j + 1, e =>
          unfold kee at e
          simp at e
          exact ⟨j, by omega, by rw [← e, ← q]; exact b⟩
      · exact ⟨i, by omega, b⟩
theorem zat_all {zs : List (List Int)} (x : List Int) : (∃ i, i < zs.length ∧ zat zs i = x) ↔ x ∈ zs := by
  refine ⟨fun ⟨i, a, b⟩ => by rw [← b]; exact zat_mem a, fun h => ?_⟩
  obtain ⟨i, hi, e⟩ := List.getElem_of_mem h
  refine ⟨i, hi, ?_⟩
  unfold zat
  rw [List.getElem?_eq_getElem hi]
  exact e
/-- in order, twins one behind the other: each once is the sorted one. -/
theorem cpt_up {zs : List (List Int)} (h : zs.Pairwise fun x y => cmpL x y ≤ 0) {i j : Nat} (hj : j < zs.length) (hi : i ≤ j) : cmpL (zat zs i) (zat zs j) ≤ 0 := by
  by_cases e : i = j
  · rw [e, cmp_self]; exact Int.le_refl _
  · have := List.pairwise_iff_getElem.1 h i j (by omega) hj (by omega)
    unfold zat
    rw [List.getElem?_eq_getElem hj, List.getElem?_eq_getElem (by omega)]
    exact this
theorem cpt_srt {zs : List (List Int)} (h : zs.Pairwise fun x y => cmpL x y ≤ 0) : ∀ j, j ≤ zs.length → Srt (cpt zs j)
  | 0, _ => List.Pairwise.nil
  | j + 1, hj => by
    have ih := cpt_srt h j (by omega)
    cases e : kee zs j with
    | false => rw [cpt_no e]; exact ih
    | true =>
      rw [cpt_yes e]
      refine List.pairwise_append.2 ⟨ih, List.pairwise_singleton _ _, fun x hx y hy => ?_⟩
      rw [List.mem_singleton.1 hy]
      obtain ⟨i, hi, rfl⟩ := (cpt_mem x j (by omega)).1 hx
      have a := cpt_up h (i := i) (j := j) (by omega) (by omega)
      rcases cmp_in (zat zs i) (zat zs j) with q | q | q
      · omega
      · exfalso
        have q := (cmp_zero _ _).1 q
        have k1 := cpt_up h (i := i) (j := j - 1) (by omega) (by omega)
        have k2 := cpt_up h (i := j - 1) (j := j) (by omega) (by omega)
        rw [q] at k1
        have k3 := cmp_back (zat zs j) (zat zs (j - 1))
        have := (cmp_zero (zat zs j) (zat zs (j - 1))).1 (by omega)
        unfold kee at e
        simp [this] at e
        omega
      · omega
/-- zones in a row, sorted, each once. -/
theorem cpt_is {zs l : List (List Int)} (h : zs.Pairwise fun x y => cmpL x y ≤ 0) (k : zs.Perm l) : cpt zs zs.length = srt l :=
  srt_eq (cpt_srt h _ (Nat.le_refl _)) fun x => ((cpt_mem x _ (Nat.le_refl _)).trans (zat_all x)).trans k.mem_iff
end Go.Proofs.YthljhijcmdnonaaGreatDoor.cover
