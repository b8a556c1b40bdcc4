/-
  What Close answers of any matrix, in one form; the conditions: its bounds are ints, in memory, at most a million.
-/
import Derived.Test.YtlagnbbbokgdfaaDbmMath2
namespace Go.Proofs.Ytlagnbbbokgdfaa.dbm
open Go.ChangeShapes Go.WideShapes Go.ChangeAt Go.RowKit num
open bound hiding up
set_option linter.unusedVariables false

/-- a matrix that may be, and is not empty. -/
def OkD (n : Int) (ts : List Int) : Prop := MayD n ts ∧ ∃ h0 : 0 < n.toNat, ∀ k, k ≤ n.toNat → ¬ emp n.toNat (tabs n.toNat h0 ts k)
/-- its closed one. -/
def clT (n : Int) (ts : List Int) : List Int := if h : 0 < n.toNat then tabs n.toNat h ts n.toNat else []
/-- what Close answers. -/
def Ca (n : Int) (ts : List Int) (w : World) (e : Ending) (w' : World) : Prop := Below w.heap.size w w' ∧
  ((¬ OkD n ts ∧ ∃ f : Int, f ≠ 0 ∧ (f = 8 ↔ ¬ MayD n ts) ∧ e = .returned (.tuple #[.agg #[.int .i64 0, .slice none 0 0], .int .i64 f])) ∨
   (OkD n ts ∧ ∃ g, w.heap.size ≤ g ∧ e = .returned (.tuple #[.agg #[.int .i64 n, .slice (some ⟨g, 0, none⟩) ts.length ts.length], .int .i64 0]) ∧ lies.Lies w' g 29 (cellsOf (clT n ts))))
theorem may_nat {n : Int} {ts : List Int} (h : MayD n ts) : ∃ m : Nat, n = m ∧ 0 < m ∧ m ≤ 4 ∧ ts.length = m * m := by
  obtain ⟨h1, h2, h3, _⟩ := h
  obtain ⟨m, rfl⟩ : ∃ m : Nat, n = m := ⟨n.toNat, by omega⟩
  refine ⟨m, rfl, by omega, by omega, ?_⟩
  rw [← Int.natCast_mul] at h3
  exact Int.ofNat.inj h3
theorem clT_nat {m : Nat} (h : 0 < m) (ts : List Int) : clT (m : Int) ts = tabs m h ts m := by
  unfold clT
  rw [dif_pos (by simpa using h)]
  rfl
theorem close_any (n : Int) (sv : Value) (ts : List Int) (w : World) (hI : law.Ints w.heap.size w sv ts) (hm : ts.length ≤ 1000000) (htop : Tops ts) :
    Calls Try.prog 11 #[.agg #[.int .i64 n, sv]] w (Ca n ts w) := by
  by_cases h : MayD n ts
  · obtain ⟨m, rfl, h0, hn, hl⟩ := may_nat h
    have hp : 0 < m * m := Nat.mul_pos h0 h0
    rcases hI with ⟨_, rfl⟩ | ⟨b, off, cap, rfl, hb, hc⟩
    · simp at hl; omega
    · rw [hl]
      refine (close_ok m b off cap ts w h0 hc hb htop h hl hn).mono fun e w' ⟨hB, hor⟩ => ⟨hB, ?_⟩
      rcases hor with ⟨k, hk, hem, rfl⟩ | ⟨hne, g, hg, rfl, hG⟩
      · exact .inl ⟨fun ⟨_, h0', hne⟩ => hne k (by simpa using hk) hem, 6, by decide, ⟨fun e => absurd e (by decide), fun e => (e h).elim⟩, rfl⟩
      · refine .inr ⟨⟨h, by simpa using h0, fun k hk => hne k (by simpa using hk)⟩, g, hg, ?_, ?_⟩
        · rw [hl]
        · rw [clT_nat h0]; exact hG
  · exact (close_bad n sv ts w hI hm htop h).mono fun e w' ⟨he, hB⟩ => ⟨hB, .inl ⟨fun k => h k.1, 8, by decide, ⟨fun _ => h, fun _ => rfl⟩, he⟩⟩
theorem cl_less {n : Int} {ts us : List Int} (hu : OkD n us) (ht : MayD n ts) (htop : Tops ts) (hto : Tops us) (h : ∀ i j, tat us n.toNat i j ≤ tat ts n.toNat i j) : OkD n ts ∧ ∀ p, p < us.length → (clT n us)[p]?.getD 0 ≤ (clT n ts)[p]?.getD 0 := by
  obtain ⟨m, rfl, h0, hn, hl⟩ := may_nat ht
  obtain ⟨hmu, h0', hne⟩ := hu
  obtain ⟨m', e, _, _, hlu⟩ := may_nat hmu
  obtain rfl : m = m' := Int.ofNat.inj e
  have e0 : (m : Int).toNat = m := Int.toNat_natCast m
  have hne' : ∀ k, k ≤ m → ¬ emp m (tabs m h0 us k) := fun k hk => hne k (by omega)
  have h' : ∀ i j, i < m → j < m → tat us m i j ≤ tat ts m i j := fun i j _ _ => h i j
  refine ⟨⟨ht, by omega, fun k hk => ?_⟩, fun p hp => ?_⟩
  · exact less_alive h0 hn hl hlu htop hto ht.2.2.2 hmu.2.2.2 h' hne' k (by omega)
  · rw [clT_nat h0, clT_nat h0]
    have hp' : p < m * m := by omega
    have := less_le h0 hn hl hlu htop hto ht.2.2.2 hmu.2.2.2 h' hne' ((Nat.div_lt_iff_lt_mul h0).2 hp') (Nat.mod_lt p h0)
    unfold tat at this
    have e : p / m * m + p % m = p := by rw [Nat.mul_comm]; exact Nat.div_add_mod p m
    rwa [e] at this
theorem clT_length {n : Int} {ts : List Int} (h : OkD n ts) : (clT n ts).length = ts.length := by
  obtain ⟨m, rfl, h0, hn, hl⟩ := may_nat h.1
  rw [clT_nat h0, tabs_length]
end Go.Proofs.Ytlagnbbbokgdfaa.dbm
