/-
  What DbmTells' calls answer, each in one form; the conditions: the numbers are ints, in memory.
-/
import Derived.Test.YtlagnbbbokgdfaaDbmE
namespace Go.Proofs.Ytlagnbbbokgdfaa.dbmTells
open Go.ChangeShapes Go.WideShapes Go.ChangeAt Go.RowKit num dbm dref rat
open bound hiding up
set_option linter.unusedVariables false
set_option linter.unusedSimpArgs false

/-- what Close answers: clocks, bounds, error. -/
def Ans (n : Int) (ts : List Int) (na : Int) (us : List Int) (f : Int) : Prop := (¬ OkD n ts ∧ na = 0 ∧ us = [] ∧ f = if MayD n ts then 6 else 8) ∨ (OkD n ts ∧ na = n ∧ us = clT n ts ∧ f = 0)
theorem Ans.one {n : Int} {ts : List Int} {na nb : Int} {us vs : List Int} {f g : Int} (h : Ans n ts na us f) (k : Ans n ts nb vs g) : nb = na ∧ vs = us ∧ g = f := by
  rcases h with ⟨h, rfl, rfl, rfl⟩ | ⟨h, rfl, rfl, rfl⟩ <;> rcases k with ⟨k, rfl, rfl, rfl⟩ | ⟨k, rfl, rfl, rfl⟩
  · exact ⟨rfl, rfl, rfl⟩
  · exact (h k).elim
  · exact (k h).elim
  · exact ⟨rfl, rfl, rfl⟩
theorem Ans.len {n : Int} {ts : List Int} {na : Int} {us : List Int} {f : Int} (h : Ans n ts na us f) : us.length ≤ ts.length := by
  rcases h with ⟨h, rfl, rfl, rfl⟩ | ⟨h, rfl, rfl, rfl⟩
  · simp
  · rw [clT_length h]; exact Nat.le_refl _

/-- a list in a block of its own, or none. -/
def Blk (n₀ : Nat) (W : World) (aa : Option Addr) (la ca : Nat) (us : List Int) : Prop := (aa = none ∧ la = 0 ∧ ca = 0 ∧ us = []) ∨ ∃ g, n₀ ≤ g ∧ aa = some ⟨g, 0, none⟩ ∧ la = us.length ∧ lies.Lies W g 29 (cellsOf us)
theorem Blk.ints {n₀ : Nat} {W : World} {aa : Option Addr} {la ca : Nat} {us : List Int} (h : Blk n₀ W aa la ca us) : law.Ints W.heap.size W (.slice aa la ca) us := by
  rcases h with ⟨rfl, rfl, rfl, rfl⟩ | ⟨g, hg, rfl, rfl, h⟩
  · exact .inl ⟨⟨_, _, rfl, fun _ => rfl⟩, rfl⟩
  · exact .inr ⟨g, 0, _, rfl, lies.lt h, row_of h⟩
theorem Blk.below {n₀ : Nat} {W X : World} {aa : Option Addr} {la ca : Nat} {us : List Int} (h : Blk n₀ W aa la ca us) (k : Below W.heap.size W X) : Blk n₀ X aa la ca us := by
  rcases h with h | ⟨g, hg, h1, h2, h⟩
  · exact .inl h
  · exact .inr ⟨g, hg, h1, h2, lies.on_call h k⟩

theorem close_g (n : Int) (sv : Value) (ts : List Int) (w : World) (hI : law.Ints w.heap.size w sv ts) (hm : ts.length ≤ 1000000) (htop : Tops ts) :
    Calls Try.prog 11 #[.agg #[.int .i64 n, sv]] w fun e w' => Below w.heap.size w w' ∧ ∃ na aa la ca us f, e = .returned (.tuple #[.agg #[.int .i64 na, .slice aa la ca], .int .i64 f]) ∧ Ans n ts na us f ∧ Blk w.heap.size w' aa la ca us := by
  by_cases h : MayD n ts
  · obtain ⟨m, rfl, h0, hn, hl⟩ := may_nat h
    have hp : 0 < m * m := Nat.mul_pos h0 h0
    rcases hI with ⟨_, rfl⟩ | ⟨b, off, cap, rfl, hb, hc⟩
    · simp at hl; omega
    · rw [hl]
      refine (close_ok m b off cap ts w h0 hc hb htop h hl hn).mono fun e w' ⟨hB, hor⟩ => ⟨hB, ?_⟩
      rcases hor with ⟨k, hk, hem, rfl⟩ | ⟨hne, g, hg, rfl, hG⟩
      · exact ⟨0, none, 0, 0, [], 6, rfl, .inl ⟨fun ⟨_, h0', hne⟩ => hne k (by simpa using hk) hem, rfl, rfl, by rw [if_pos h]⟩, .inl ⟨rfl, rfl, rfl, rfl⟩⟩
      · refine ⟨m, _, _, _, tabs m h0 ts m, 0, rfl, .inr ⟨⟨h, by simpa using h0, fun k hk => hne k (by simpa using hk)⟩, rfl, (clT_nat h0 ts).symm, rfl⟩, .inr ⟨g, hg, rfl, ?_, hG⟩⟩
        rw [tabs_length, hl]
  · exact (close_bad n sv ts w hI hm htop h).mono fun e w' ⟨he, hB⟩ => ⟨hB, 0, none, 0, 0, [], 8, he, .inl ⟨fun k => h k.1, rfl, rfl, by rw [if_neg h]⟩, .inl ⟨rfl, rfl, rfl, rfl⟩⟩

theorem rclose_g (n : Int) (sv : Value) (ts : List Int) (w : World) (hI : law.Ints w.heap.size w sv ts) (hm : ts.length ≤ 1000000) (hlo : Low ts) (htop : Tops ts) :
    Calls Try.prog 14 #[.agg #[.int .i64 n, sv]] w fun e w' => Below w.heap.size w w' ∧ ∃ nb ab lb cb us f, e = .returned (.tuple #[.agg #[.int .i64 nb, .slice ab lb cb], .int .i64 f]) ∧ Ans n ts nb us f ∧ law.Ints w'.heap.size w' (.slice ab lb cb) us := by
  refine (dref.close_any n sv ts w hI hm hlo htop).mono fun e w' ⟨hB, hor⟩ => ⟨hB, ?_⟩
  rcases hor with ⟨hno, rfl⟩ | ⟨hok, v, rfl, hO⟩
  · exact ⟨0, none, 0, 0, [], _, rfl, .inl ⟨hno, rfl, rfl, rfl⟩, .inl ⟨⟨_, _, rfl, fun _ => rfl⟩, rfl⟩⟩
  · have hI' := hO
    rw [← clT_length hok] at hI'
    have hi := dref.ints_own hI'
    obtain ⟨ab, cb, rfl⟩ := ints_len hi
    exact ⟨n, ab, _, cb, clT n ts, 0, rfl, .inr ⟨hok, rfl, rfl, rfl⟩, hi⟩

theorem kpd_one {n : Int} {ts : List Int} {rs : List (Int × Int)} {r r' : Bool} {c c' : Int}
    (h : (c = 8 ∧ r = false ∧ ¬ (MayD n ts ∧ MayT rs)) ∨ (c = 40 ∧ r = false ∧ MayD n ts ∧ MayT rs ∧ ¬ (rs.length : Int) = n - 1) ∨ (c = 0 ∧ MayD n ts ∧ MayT rs ∧ (rs.length : Int) = n - 1 ∧ (r = true ↔ keptAll n.toNat ts ((0, 1) :: rs))))
    (k : (c' = 8 ∧ r' = false ∧ ¬ (MayD n ts ∧ MayT rs)) ∨ (c' = 40 ∧ r' = false ∧ MayD n ts ∧ MayT rs ∧ ¬ (rs.length : Int) = n - 1) ∨ (c' = 0 ∧ MayD n ts ∧ MayT rs ∧ (rs.length : Int) = n - 1 ∧ (r' = true ↔ keptAll n.toNat ts ((0, 1) :: rs)))) : r' = r ∧ c' = c := by
  rcases h with ⟨rfl, rfl, h⟩ | ⟨rfl, rfl, h1, h2, h3⟩ | ⟨rfl, h1, h2, h3, h⟩ <;> rcases k with ⟨rfl, rfl, k⟩ | ⟨rfl, rfl, k1, k2, k3⟩ | ⟨rfl, k1, k2, k3, k⟩
  · exact ⟨rfl, rfl⟩
  · exact (h ⟨k1, k2⟩).elim
  · exact (h ⟨k1, k2⟩).elim
  · exact (k ⟨h1, h2⟩).elim
  · exact ⟨rfl, rfl⟩
  · exact (h3 k3).elim
  · exact (k ⟨h1, h2⟩).elim
  · exact (k3 h3).elim
  · exact ⟨Bool.eq_iff_iff.2 (k.trans h.symm), rfl⟩

theorem twin_g (n : Int) (v : Value) (ts : List Int) (w : World) (base : Nat) (hO : w.ownsRow base 29 1 v ts.length (ts.map (Value.int .i64))) (hm : ts.length ≤ 1000000) :
    Calls Try.prog 16 #[.agg #[.int .i64 n, v]] w fun e w' => Below w.heap.size w w' ∧ ∃ aa la ca, e = .returned (.agg #[.int .i64 n, .slice aa la ca]) ∧ Blk w.heap.size w' aa la ca ts := by
  refine (twin4_any n v ts w base hO hm).mono fun e w' ⟨hB, v, he, h⟩ => ⟨hB, ?_⟩
  rcases h with ⟨rfl, h0⟩ | ⟨g, hg, rfl, hG⟩
  · exact ⟨none, 0, 0, he, .inl ⟨rfl, rfl, rfl, h0⟩⟩
  · exact ⟨_, _, _, he, .inr ⟨g, hg, rfl, rfl, hG⟩⟩
end Go.Proofs.Ytlagnbbbokgdfaa.dbmTells
