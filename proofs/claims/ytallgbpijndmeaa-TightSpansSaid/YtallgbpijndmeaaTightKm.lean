/-
  Times that keep a matrix with bounds more; each theorem names its conditions.
-/
import Derived.Test.YtallgbpijndmeaaTight5
import Derived.Test.YtallgbpijndmeaaDbmD
namespace Go.Proofs.Ytallgbpijndmeaa.tkept
open num dbm rat Go.Proofs.Ytallgbpijndmeaa.tight
open bound hiding up
set_option linter.unusedVariables false

theorem kpV_lsr {a b c d u v : Int} (h : MayR a b) (h' : MayR c d) (hu : Fine u) (hv : Fine v) : kpV a b c d (lsr u v) = true ↔ kpV a b c d u = true ∧ kpV a b c d v = true := by
  rw [kp_kB h h' (lsr_fine hu hv), kp_kB h h' hu, kp_kB h h' hv]
  have hb : 0 < b := by have := h.1; omega
  have hd : 0 < d := by have := h'.1; omega
  have hl := lsr_le u v
  have tu : u ≤ 9223372036854775807 := by rcases hu with h | h <;> omega
  have tv : v ≤ 9223372036854775807 := by rcases hv with h | h <;> omega
  constructor
  · rintro (k | k)
    · exact ⟨.inl (by omega), .inl (by omega)⟩
    · exact ⟨.inr (keptR_up hb hd k hl.1), .inr (keptR_up hb hd k hl.2)⟩
  · rintro ⟨k1, k2⟩
    rcases lsr_is u v with e | e <;> rw [e] <;> assumption
theorem kept_les {n : Nat} {ts us : List Int} {qs : List (Int × Int)} (hn : n ≤ 4) (hl : ts.length = n * n) (hu : us.length = n * n) (ht : MayD n ts) (hm : MayD n us) (hq : MayT qs) (hqn : qs.length = n) :
    keptAll n (lesT ts us) qs ↔ keptAll n ts qs ∧ keptAll n us qs := by
  have key : ∀ i j, i < n → j < n → (kp n (lesT ts us) qs i j = true ↔ kp n ts qs i j = true ∧ kp n us qs i j = true) := fun i j hi hj => by
    have e : tat (lesT ts us) n i j = lsr (tat ts n i j) (tat us n i j) := lesT_at _ _ (by rw [hl]; exact place_le hn hi hj)
    unfold kp
    rw [e]
    exact kpV_lsr (hq i (by omega)) (hq j (by omega)) (fine_at hl hn ht.2.2.2 hi hj) (fine_at hu hn hm.2.2.2 hi hj)
  exact ⟨fun h => ⟨fun i j hi hj => ((key i j hi hj).1 (h i j hi hj)).1, fun i j hi hj => ((key i j hi hj).1 (h i j hi hj)).2⟩, fun h i j hi hj => (key i j hi hj).2 ⟨h.1 i j hi hj, h.2 i j hi hj⟩⟩
theorem kept_set {n i j : Nat} {x : Int} {ts : List Int} {qs : List (Int × Int)} (hn : n ≤ 4) (hl : ts.length = n * n) (ht : MayD n ts) (hx : Fine x) (hq : MayT qs) (hqn : qs.length = n) (hi : i < n) (hj : j < n) :
    keptAll n (setT ts (i * n + j) x) qs ↔ keptAll n ts qs ∧ kpV (pr qs i).1 (pr qs i).2 (pr qs j).1 (pr qs j).2 x = true := by
  have key : ∀ a b, a < n → b < n → (kp n (setT ts (i * n + j) x) qs a b = true ↔ kp n ts qs a b = true ∧ (i = a ∧ j = b → kpV (pr qs a).1 (pr qs a).2 (pr qs b).1 (pr qs b).2 x = true)) := fun a b ha hb => by
    have e : tat (setT ts (i * n + j) x) n a b = if i * n + j = a * n + b then lsr (tat ts n a b) x else tat ts n a b := setT_at _ _ (by rw [hl]; exact place_le hn ha hb)
    unfold kp
    rw [e]
    by_cases p : i * n + j = a * n + b
    · obtain ⟨rfl, rfl⟩ := place_inj hj hb p
      rw [if_pos rfl, kpV_lsr (hq i (by omega)) (hq j (by omega)) (fine_at hl hn ht.2.2.2 hi hj) hx]
      exact ⟨fun h => ⟨h.1, fun _ => h.2⟩, fun h => ⟨h.1, h.2 ⟨rfl, rfl⟩⟩⟩
    · rw [if_neg p]
      exact ⟨fun h => ⟨h, fun k => absurd (by rw [k.1, k.2]) p⟩, fun h => h.1⟩
  refine ⟨fun h => ⟨fun a b ha hb => ((key a b ha hb).1 (h a b ha hb)).1, ((key i j hi hj).1 (h i j hi hj)).2 ⟨rfl, rfl⟩⟩, fun h a b ha hb => (key a b ha hb).2 ⟨h.1 a b ha hb, ?_⟩⟩
  rintro ⟨rfl, rfl⟩
  exact h.2
/-- of what is closed. -/
theorem kept_cl {n : Nat} {L : List Int} {qs : List (Int × Int)} (h0 : 0 < n) (hn : n ≤ 4) (hl : L.length = n * n) (htop : Tops L) (hok : OkD n L) (hc : MayD n (clT n L)) (hq : MayT qs) (hqn : qs.length = n) : keptAll n (clT n L) qs ↔ keptAll n L qs := by
  have hC : clT n L = tabs n h0 L n := clT_nat h0 L
  rw [hC] at hc ⊢
  have hlc : (tabs n h0 L n).length = n * n := (tabs_length _ _ _ _).trans hl
  exact (kept_same h0 hn hl htop hok.1.2.2.2 hq hqn (fun k hk => hok.2.2 k (by simpa using hk)) (fun i j hi hj => fine_at hlc hn hc.2.2.2 hi hj)).symm
/-- an empty one is kept by none. -/
theorem kept_no {n : Nat} {L : List Int} {qs : List (Int × Int)} (h0 : 0 < n) (hn : n ≤ 4) (hl : L.length = n * n) (htop : Tops L) (hm : MayD n L) (hok : ¬ OkD n L) (hq : MayT qs) (hqn : qs.length = n) : ¬ keptAll n L qs := fun h => by
  have := kept_closed h0 hn hl htop hm.2.2.2 hq hqn h
  exact hok ⟨hm, by simpa using h0, fun k hk => this k (by simpa using hk)⟩

/-- what the answers of a matrix with more bounds mean for times that are held against it. -/
theorem kept_ans {n : Nat} {L : List Int} {qs : List (Int × Int)} {na f : Int} {us : List Int} (h0 : 0 < n) (hn : n ≤ 4) (hl : L.length = n * n) (htop : Tops L) (hm : MayD n L) (hq : MayT qs) (hqn : qs.length = n) (h : Ans n L na us f) :
    (f = 6 ∧ ¬ keptAll n L qs) ∨ (f = 0 ∧ na = n ∧ us.length = n * n ∧ Tops us ∧ (MayD n us → (keptAll n us qs ↔ keptAll n L qs))) := by
  rcases h with ⟨hno, rfl, rfl, rfl⟩ | ⟨hok, rfl, rfl, rfl⟩
  · exact .inl ⟨if_pos hm, kept_no h0 hn hl htop hm hno hq hqn⟩
  · exact .inr ⟨rfl, rfl, (clT_length hok).trans hl, clT_tops htop, fun hc => kept_cl h0 hn hl htop hok hc hq hqn⟩
end Go.Proofs.Ytallgbpijndmeaa.tkept
