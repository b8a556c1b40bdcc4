
/-
  What the laws of minus say of zones that may be; lists of zones that are the same.
-/
import Derived.Test.YthljhijcmdnonaaGreatDoorMinusE
import Derived.Test.YthljhijcmdnonaaGreatDoorZoneI
namespace Go.Proofs.YthljhijcmdnonaaGreatDoor.mlaw
open Go.Joins Go.ChangeShapes Go.WideShapes Go.ChangeAt Go.RowKit num rat dbm Go.Proofs.YthljhijcmdnonaaGreatDoor.tight Go.Proofs.YthljhijcmdnonaaGreatDoor.incl Go.Proofs.YthljhijcmdnonaaGreatDoor.plaw Go.Proofs.YthljhijcmdnonaaGreatDoor.zopen Go.Proofs.YthljhijcmdnonaaGreatDoor.zone Go.Proofs.YthljhijcmdnonaaGreatDoor.win Go.Proofs.YthljhijcmdnonaaGreatDoor.minus Go.Proofs.YthljhijcmdnonaaGreatDoor.mz
open bound hiding up
set_option linter.unusedVariables false
set_option linter.unusedSimpArgs false

/-! answers -/
/-- pieces without an error. -/
theorem pcs_is {a b : List Int} {o : List (List Int)} (ha : Zo a) (hb : Zo b) (h : PcsR b 6 a (mkz o)) : LessR b 6 a o 0 := by
  obtain ⟨f, h1, h2⟩ := pcs_less hb.2.1 hb.1 6 (Nat.le_refl _) ha h
  rw [good_mk] at h1 h2
  rcases h2 with ⟨rfl, _⟩ | ⟨_, x, h2⟩
  · rw [if_pos rfl] at h1; exact h1
  · exfalso
    have := congrArg List.length h2
    simp at this
theorem cut_told {z w out ts us : List Int} (e : lesT (fullT z) (fullT w) = ts) (k : OkD 3 ts ∧ clT 3 ts = us) (m : MayD 3 us) (s : shortT us = out) : CutR z w out 0 := by
  unfold CutR
  rw [e, k.2]
  exact .inr (.inr ⟨k.1, m, s.symm, rfl⟩)
theorem own2 {W : World} {base : Nat} {v : Value} {x0 x1 x2 x3 x4 x5 y0 y1 y2 y3 y4 y5 : Int} (h : W.ownsRow base 24 6 v 2 (flatZ [[x0, x1, x2, x3, x4, x5], [y0, y1, y2, y3, y4, y5]])) :
    ∃ g cap, v = .slice (some ⟨g, 0, none⟩) 2 cap ∧ g < W.heap.size ∧ W.cell? ⟨g, 0, none⟩ = some (.int .i64 x0) ∧ W.cell? ⟨g, 1, none⟩ = some (.int .i64 x1) ∧ W.cell? ⟨g, 2, none⟩ = some (.int .i64 x2) ∧ W.cell? ⟨g, 3, none⟩ = some (.int .i64 x3) ∧ W.cell? ⟨g, 4, none⟩ = some (.int .i64 x4) ∧ W.cell? ⟨g, 5, none⟩ = some (.int .i64 x5) ∧
      W.cell? ⟨g, 6, none⟩ = some (.int .i64 y0) ∧ W.cell? ⟨g, 7, none⟩ = some (.int .i64 y1) ∧ W.cell? ⟨g, 8, none⟩ = some (.int .i64 y2) ∧ W.cell? ⟨g, 9, none⟩ = some (.int .i64 y3) ∧ W.cell? ⟨g, 10, none⟩ = some (.int .i64 y4) ∧ W.cell? ⟨g, 11, none⟩ = some (.int .i64 y5) := by
  rcases ownsRow_forms h with ⟨_, h0⟩ | ⟨g, cap, rfl⟩
  · cases h0
  · exact ⟨g, cap, rfl, (h.lt g rfl).2, h.cellAt 0 (by decide), h.cellAt 1 (by decide), h.cellAt 2 (by decide), h.cellAt 3 (by decide), h.cellAt 4 (by decide), h.cellAt 5 (by decide), h.cellAt 6 (by decide), h.cellAt 7 (by decide), h.cellAt 8 (by decide), h.cellAt 9 (by decide), h.cellAt 10 (by decide), h.cellAt 11 (by decide)⟩
/-! the chapter's zones -/
end Go.Proofs.YthljhijcmdnonaaGreatDoor.mlaw

namespace Go.Proofs.YthljhijcmdnonaaGreatDoor.mlaw
open Go.Joins Go.ChangeShapes Go.WideShapes Go.ChangeAt Go.RowKit num rat dbm Go.Proofs.YthljhijcmdnonaaGreatDoor.tight Go.Proofs.YthljhijcmdnonaaGreatDoor.incl Go.Proofs.YthljhijcmdnonaaGreatDoor.plaw Go.Proofs.YthljhijcmdnonaaGreatDoor.zopen Go.Proofs.YthljhijcmdnonaaGreatDoor.zone Go.Proofs.YthljhijcmdnonaaGreatDoor.win Go.Proofs.YthljhijcmdnonaaGreatDoor.minus Go.Proofs.YthljhijcmdnonaaGreatDoor.mz
open bound hiding up
set_option linter.unusedVariables false
set_option linter.unusedSimpArgs false

/-- its cells. -/
theorem zs_cells {n₀ : Nat} {W : World} {b off len cap : Nat} {zs : List (List Int)} {z0 z1 z2 z3 z4 z5 : Int} (h : Zs n₀ W (.slice (some ⟨b, off, none⟩) len cap) zs) {k : Nat} (hk : k < zs.length) (e : zat zs k = [z0, z1, z2, z3, z4, z5]) :
    W.cell? ⟨b, off + k * 6, none⟩ = some (.int .i64 z0) ∧ W.cell? ⟨b, off + k * 6 + 1, none⟩ = some (.int .i64 z1) ∧ W.cell? ⟨b, off + k * 6 + 2, none⟩ = some (.int .i64 z2) ∧ W.cell? ⟨b, off + k * 6 + 3, none⟩ = some (.int .i64 z3) ∧ W.cell? ⟨b, off + k * 6 + 4, none⟩ = some (.int .i64 z4) ∧ W.cell? ⟨b, off + k * 6 + 5, none⟩ = some (.int .i64 z5) := by
  obtain ⟨b', off', e', _, _, c0, c1, c2, c3, c4, c5⟩ := zs_at h hk
  cases e'
  rw [e] at c0 c1 c2 c3 c4 c5
  exact ⟨c0, c1, c2, c3, c4, c5⟩
end Go.Proofs.YthljhijcmdnonaaGreatDoor.mlaw
