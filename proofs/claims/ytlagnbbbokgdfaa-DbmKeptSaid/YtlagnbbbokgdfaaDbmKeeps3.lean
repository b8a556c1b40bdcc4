/-
  Whether times keep a matrix (dbm.Keeps), in one form; the conditions: the numbers are ints, in memory, fewer than a million.
-/
import Derived.Test.YtlagnbbbokgdfaaDbmKeeps2
import Derived.Test.YtlagnbbbokgdfaaDbmCloseAny
namespace Go.Proofs.Ytlagnbbbokgdfaa.dbm
open Go.RowKit num rat
open bound hiding up
set_option linter.unusedVariables false

/-- what Keeps answers, of whatever matrix and times. -/
def Kpd (n : Int) (ts : List Int) (rs : List (Int × Int)) (w : World) (e : Ending) (w' : World) : Prop := Below w.heap.size w w' ∧ ∃ (r : Bool) (c : Int), e = .returned (.tuple #[.bool r, .int .i64 c]) ∧
  ((c = 8 ∧ r = false ∧ ¬ (MayD n ts ∧ MayT rs)) ∨ (c = 40 ∧ r = false ∧ MayD n ts ∧ MayT rs ∧ ¬ (rs.length : Int) = n - 1) ∨ (c = 0 ∧ MayD n ts ∧ MayT rs ∧ (rs.length : Int) = n - 1 ∧ (r = true ↔ keptAll n.toNat ts ((0, 1) :: rs))))
theorem dkeeps_any (n : Int) (sv tv : Value) (ts : List Int) (rs : List (Int × Int)) (w : World) (hI : law.Ints w.heap.size w sv ts) (hm : ts.length ≤ 1000000) (htop : Tops ts) (hR : Rats w.heap.size w tv rs) (hi : IntsR rs) (hlm : rs.length ≤ 100000) :
    Calls Try.prog 9 #[.agg #[.int .i64 n, sv], tv] w (Kpd n ts rs w) := by
  by_cases h : MayD n ts
  · obtain ⟨ao, cap, rfl⟩ := rats_len hR
    by_cases hd : MayT rs ∧ (rs.length : Int) = n - 1
    · obtain ⟨m, rfl, h0, hn, hl⟩ := may_nat h
      have hp : 0 < m * m := Nat.mul_pos h0 h0
      rcases hI with ⟨_, rfl⟩ | ⟨b, off, cap', rfl, hb, hc⟩
      · simp at hl; omega
      · rw [hl]
        refine (dkeeps_ok m b off cap' rs.length cap ao ts rs w h0 hn hc hb htop h hl hR rfl hi hd.1 (by omega)).mono fun e w' ⟨hB, r, he, hr⟩ => ⟨hB, r, 0, he, .inr (.inr ⟨rfl, h, hd.1, hd.2, hr⟩)⟩
    · refine (dkeeps_not n sv ts rs rs.length cap ao w hI hm htop h hR rfl hi (by omega) hd).mono fun e w' ⟨⟨c, hc, he⟩, hB⟩ => ⟨hB, false, c, he, ?_⟩
      rcases hc with ⟨rfl, hc⟩ | ⟨rfl, hc⟩
      · exact .inl ⟨rfl, rfl, fun k => hc k.2⟩
      · exact .inr (.inl ⟨rfl, rfl, h, hc, fun k => hd ⟨hc, k⟩⟩)
  · exact (dkeeps_bad n sv tv ts w hI hm htop h).mono fun e w' ⟨he, hB⟩ => ⟨hB, false, 8, he, .inl ⟨rfl, rfl, fun k => h k.1⟩⟩
end Go.Proofs.Ytlagnbbbokgdfaa.dbm
