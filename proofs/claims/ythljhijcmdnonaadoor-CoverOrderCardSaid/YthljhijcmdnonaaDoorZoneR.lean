/-
  The document's own zones: a zone's matrix, a matrix' zone, and what is told of what is closed; each theorem names its conditions.
-/
import Derived.Test.YthljhijcmdnonaaDoorZoneA
import Derived.Test.YthljhijcmdnonaaDoorTightC
import Derived.Test.YthljhijcmdnonaaDoorZoneF
import Derived.Test.YthljhijcmdnonaaDoorLawA
namespace Go.Proofs.YthljhijcmdnonaaDoor.zref
open Go.Joins Go.ChangeShapes Go.WideShapes Go.ChangeAt Go.RowKit num rat dbm Go.Proofs.YthljhijcmdnonaaDoor.tight Go.Proofs.YthljhijcmdnonaaDoor.incl Go.Proofs.YthljhijcmdnonaaDoor.plaw Go.Proofs.YthljhijcmdnonaaDoor.zopen Go.Proofs.YthljhijcmdnonaaDoor.zone dref
open bound hiding up
set_option linter.unusedVariables false
set_option linter.unusedSimpArgs false

/-- numbers of what is closed are no less than ints' lower end. -/
theorem cl_low {n : Nat} {ts : List Int} (h0 : 0 < n) (hn : n ≤ 4) (hl : ts.length = n * n) (htop : Tops ts) (h : OkD n ts) : Low (clT n ts) := fun x hx => by
  obtain ⟨p, hp, rfl⟩ := List.getElem_of_mem hx
  have hlen : (clT n ts).length = n * n := (clT_length h).trans hl
  have hp' : p < n * n := by rw [← hlen]; exact hp
  have hi := (Nat.div_lt_iff_lt_mul h0).2 hp'
  have hj := Nat.mod_lt p h0
  have e : p / n * n + p % n = p := by rw [Nat.mul_comm]; exact Nat.div_add_mod p n
  have ht : tat (clT n ts) n (p / n) (p % n) = (clT n ts)[p] := by
    unfold tat
    rw [e, List.getElem?_eq_getElem hp]
    rfl
  have hw := wts_in (us := clT n ts) hi hj
  rw [ht] at hw
  by_cases hx : (clT n ts)[p] = 9223372036854775807
  · omega
  · rw [cod_some hx] at hw
    have := clo_wi h0 hn hl htop h hi hw
    omega
theorem full_low {z : List Int} (h : Low z) : Low (fullT z) := by
  have k : ∀ i, -9223372036854775808 ≤ z[i]?.getD 0 := fun i => by
    by_cases hi : i < z.length
    · rw [List.getElem?_eq_getElem hi]; exact h _ (List.getElem_mem hi)
    · rw [List.getElem?_eq_none (by omega)]; decide
  have k0 := k 0
  have k1 := k 1
  have k2 := k 2
  have k3 := k 3
  have k4 := k 4
  have k5 := k 5
  intro x hx
  unfold fullT at hx
  simp only [List.mem_cons, List.not_mem_nil, or_false] at hx
  omega

/-- what the walk wants of six bounds of a matrix. -/
theorem six_bounds {W : World} {g : Nat} {us : List Int} (h : Row W g 0 us) (hl : us.length = 9) : W.cell? ⟨g, 3, none⟩ = some (.int .i64 (us[3]?.getD 0)) ∧ W.cell? ⟨g, 1, none⟩ = some (.int .i64 (us[1]?.getD 0)) ∧ W.cell? ⟨g, 6, none⟩ = some (.int .i64 (us[6]?.getD 0)) ∧ W.cell? ⟨g, 2, none⟩ = some (.int .i64 (us[2]?.getD 0)) ∧ W.cell? ⟨g, 7, none⟩ = some (.int .i64 (us[7]?.getD 0)) ∧ W.cell? ⟨g, 5, none⟩ = some (.int .i64 (us[5]?.getD 0)) := by
  have k : ∀ i, i < 9 → W.cell? ⟨g, i, none⟩ = some (.int .i64 (us[i]?.getD 0)) := fun i hi => by
    have := h i (by omega)
    rw [Nat.zero_add] at this
    rw [this, List.getElem?_eq_getElem (by omega)]
  exact ⟨k 3 (by decide), k 1 (by decide), k 6 (by decide), k 2 (by decide), k 7 (by decide), k 5 (by decide)⟩

/-- six cells of a block are turned: how it lies then, and what lies elsewhere. -/
theorem put_sixL {W : World} {g : Nat} {t : TypeId} {z0 z1 z2 z3 z4 z5 : Value} (h : lies.Lies W g t #[z0, z1, z2, z3, z4, z5]) (a b c d e f : Value) : lies.Lies (((((((W.setCell ⟨g, 0, none⟩ a).setCell ⟨g, 1, none⟩ b).setCell ⟨g, 2, none⟩ c).setCell ⟨g, 3, none⟩ d).setCell ⟨g, 4, none⟩ e).setCell ⟨g, 5, none⟩ f)) g t #[a, b, c, d, e, f] := by
  have h0 : lies.Lies (W.setCell ⟨g, 0, none⟩ a) g t #[a, z1, z2, z3, z4, z5] := by simpa using lies.on_put h 0 a
  have h1 := lies.on_put h0 1 b
  have h1 : lies.Lies ((W.setCell ⟨g, 0, none⟩ a).setCell ⟨g, 1, none⟩ b) g t #[a, b, z2, z3, z4, z5] := by simpa using h1
  have h2 := lies.on_put h1 2 c
  have h2 : lies.Lies (((W.setCell ⟨g, 0, none⟩ a).setCell ⟨g, 1, none⟩ b).setCell ⟨g, 2, none⟩ c) g t #[a, b, c, z3, z4, z5] := by simpa using h2
  have h3 := lies.on_put h2 3 d
  have h3 : lies.Lies ((((W.setCell ⟨g, 0, none⟩ a).setCell ⟨g, 1, none⟩ b).setCell ⟨g, 2, none⟩ c).setCell ⟨g, 3, none⟩ d) g t #[a, b, c, d, z4, z5] := by simpa using h3
  have h4 := lies.on_put h3 4 e
  have h4 : lies.Lies (((((W.setCell ⟨g, 0, none⟩ a).setCell ⟨g, 1, none⟩ b).setCell ⟨g, 2, none⟩ c).setCell ⟨g, 3, none⟩ d).setCell ⟨g, 4, none⟩ e) g t #[a, b, c, d, e, z5] := by simpa using h4
  simpa using lies.on_put h4 5 f
theorem drew_cell (W : World) (b j : Nat) : W.drew.cell? ⟨b, j, none⟩ = W.cell? ⟨b, j, none⟩ := (dbm.drawn1 (Below.refl (b + 1) W)).cell (p := ⟨b, j, none⟩) (Nat.lt_succ_self b)
theorem six_far {W : World} {x g : Nat} (k : x ≠ g) (a b c d e f : Value) {j : Nat} {u : Value} (h : W.cell? ⟨x, j, none⟩ = some u) : (((((((W.setCell ⟨g, 0, none⟩ a).setCell ⟨g, 1, none⟩ b).setCell ⟨g, 2, none⟩ c).setCell ⟨g, 3, none⟩ d).setCell ⟨g, 4, none⟩ e).setCell ⟨g, 5, none⟩ f)).drew.cell? ⟨x, j, none⟩ = some u := by
  rw [drew_cell, cell_far k, cell_far k, cell_far k, cell_far k, cell_far k, cell_far k]
  exact h
theorem six_drew {W : World} {g : Nat} {t : TypeId} {cs : Array Value} (h : lies.Lies W g t cs) : lies.Lies W.drew g t cs := lies.on_call h (dbm.drawn1 (Below.refl _ _))

/-! told -/
end Go.Proofs.YthljhijcmdnonaaDoor.zref
