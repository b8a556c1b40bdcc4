
/-
  What the laws of layer 5 share: calls at told matrices, boxes, a span that comes in, times that keep a matrix with bounds more; each theorem names its conditions.
-/
import Derived.Test.YthljhijcmdnonaaGreatDoorTightB
import Derived.Lib.SmallJoins
import Derived.Test.YthljhijcmdnonaaGreatDoorDbmD
import Derived.Test.YthljhijcmdnonaaGreatDoorRatC
namespace Go.Proofs.YthljhijcmdnonaaGreatDoor.tlaw
open Go.Joins Go.ChangeShapes Go.WideShapes Go.ChangeAt Go.RowKit num dbm Go.Proofs.YthljhijcmdnonaaGreatDoor.tight
open bound hiding up
set_option linter.unusedVariables false
set_option linter.unusedSimpArgs false

/-- is a matrix not empty? told by reckoning. -/
def okB (m : Nat) (h0 : 0 < m) (ts : List Int) : Bool := decide (MayD m ts) && (List.range (m + 1)).all (fun k => (List.range m).all fun i => decide (1 ≤ tat (tabs m h0 ts k) m i i))
theorem okB_iff {m : Nat} (h0 : 0 < m) (ts : List Int) : okB m h0 ts = true ↔ OkD m ts := by
  unfold okB OkD emp
  simp only [Bool.and_eq_true, decide_eq_true_eq, List.all_eq_true, List.mem_range, Int.toNat_natCast]
  constructor
  · rintro ⟨h, k⟩
    exact ⟨h, h0, fun q hq ⟨i, hi, hl⟩ => by have := k q (by omega) i hi; omega⟩
  · rintro ⟨h, h0', k⟩
    refine ⟨h, fun q hq i hi => ?_⟩
    refine Decidable.byContradiction fun hl => k q (by omega) ⟨i, hi, by omega⟩
/-- the calls of the examples. -/
theorem ok_cl {m : Nat} (h0 : 0 < m) {ts us : List Int} (h : okB m h0 ts = true) (k : tabs m h0 ts m = us) : OkD m ts ∧ clT m ts = us := ⟨(okB_iff h0 ts).1 h, (clT_nat h0 ts).trans k⟩
/-- matrices in boxes: where the box lies, clocks, list, bounds. -/
abbrev Bx := Nat × Int × Value × List Int
/-- what lies there in a law: boxes, and nothing of the start has turned. -/
def St (bs : List Bx) (w W : World) : Prop := Below w.heap.size w W ∧ ∀ b ∈ bs, lies.Lies W b.1 76 #[.int .i64 b.2.1, b.2.2.1] ∧ law.Ints W.heap.size W b.2.2.1 b.2.2.2
theorem St.below {bs : List Bx} {w W X : World} (h : St bs w W) (k : Below W.heap.size W X) : St bs w X :=
  ⟨h.1.trans (k.mono h.1.size), fun b hb => ⟨lies.on_call (h.2 b hb).1 k, ((h.2 b hb).2.below k).mono k.size⟩⟩
theorem St.alloc {bs : List Bx} {w W : World} (h : St bs w W) (o : Obj) : St bs w (W.alloc o) := h.below ((Below.refl _ W).alloc (Nat.le_refl _) o)
theorem St.drew {bs : List Bx} {w W : World} (h : St bs w W) : St bs w W.drew := h.below (dbm.drawn1 (Below.refl _ _))
theorem St.add {bs : List Bx} {w W : World} (h : St bs w W) (n : Int) (sv : Value) (ts : List Int) (hI : law.Ints W.heap.size W sv ts) : St ((W.heap.size, n, sv, ts) :: bs) w (W.alloc (.cells #[.int .i64 n, sv] 76)) := by
  have k : Below W.heap.size W (W.alloc (.cells #[.int .i64 n, sv] 76)) := (Below.refl _ W).alloc (Nat.le_refl _) _
  refine ⟨(h.below k).1, fun b hb => ?_⟩
  rcases List.mem_cons.1 hb with rfl | hb
  · exact ⟨lies.made _ _ _, (hI.below k).mono k.size⟩
  · exact (h.below k).2 b hb
theorem St.start (w : World) : St [] w w := ⟨Below.refl _ _, fun b hb => absurd hb (by simp)⟩
end Go.Proofs.YthljhijcmdnonaaGreatDoor.tlaw

namespace Go.Proofs.YthljhijcmdnonaaGreatDoor.tlaw
open Go.Joins Go.Deep Go.ChangeShapes Go.WideShapes Go.ChangeAt Go.RowKit num dbm Go.Proofs.YthljhijcmdnonaaGreatDoor.tight
open bound hiding up
set_option linter.unusedVariables false
set_option linter.unusedSimpArgs false

section
variable {H : Type} {enc : TypeId × Value → H} {P : Program} {w : World} {base : Nat} {spare : Nat → Bool} {held : Bool}
end

theorem Ans.one {n : Int} {ts : List Int} {na nb : Int} {us vs : List Int} {f g : Int} (h : Ans n ts na us f) (k : Ans n ts nb vs g) : nb = na ∧ vs = us ∧ g = f := by
  rcases h with ⟨h, rfl, rfl, rfl⟩ | ⟨h, rfl, rfl, rfl⟩ <;> rcases k with ⟨k, rfl, rfl, rfl⟩ | ⟨k, rfl, rfl, rfl⟩
  · exact ⟨rfl, rfl, rfl⟩
  · exact (h k).elim
  · exact (k h).elim
  · exact ⟨rfl, rfl, rfl⟩
theorem Res.one {n : Int} {q : Option (List Int)} {err na nb : Int} {us vs : List Int} {f g : Int} (h : Res n q err na us f) (k : Res n q err nb vs g) : nb = na ∧ vs = us ∧ g = f := by
  rcases h with ⟨h0, rfl, rfl, rfl⟩ | ⟨ts, h0, h⟩ <;> rcases k with ⟨k0, rfl, rfl, rfl⟩ | ⟨us', k0, k⟩
  · exact ⟨rfl, rfl, rfl⟩
  · rw [h0] at k0; cases k0
  · rw [h0] at k0; cases k0
  · rw [h0] at k0; cases k0; exact Ans.one h k
theorem Ans.len {n : Int} {ts : List Int} {na : Int} {us : List Int} {f : Int} (h : Ans n ts na us f) : us.length ≤ ts.length := by
  rcases h with ⟨h, rfl, rfl, rfl⟩ | ⟨h, rfl, rfl, rfl⟩
  · simp
  · rw [clT_length h]; exact Nat.le_refl _
end Go.Proofs.YthljhijcmdnonaaGreatDoor.tlaw

namespace Go.Proofs.YthljhijcmdnonaaGreatDoor.tkept
open num dbm rat Go.Proofs.YthljhijcmdnonaaGreatDoor.tight
open bound hiding up
set_option linter.unusedVariables false

theorem kpV_lsr {a b c d u v : Int} (h : MayR a b) (h' : MayR c d) (hu : Fine u) (hv : Fine v) : kpV a b c d (lsr u v) = true ↔ kpV a b c d u = true ∧ kpV a b c d v = true := by
  rw [kp_kB h h' (lsr_fine hu hv), kp_kB h h' hu, kp_kB h h' hv]
  have hb : 0 < b := by have := h.1; omega
  have hd : 0 < d := by have := h'.1; omega
  have hl := lsr_le u v
  have tu : u ≤ 9223372036854775807 := by rcases hu with h | h <;> omega
  have tv : v ≤ 9223372036854775807 := by rcases hv with h | h <;> omega
  constructor
  · rintro (k | k)
    · exact ⟨.inl (by omega), .inl (by omega)⟩
    · exact ⟨.inr (keptR_up hb hd k hl.1), .inr (keptR_up hb hd k hl.2)⟩
  · rintro ⟨k1, k2⟩
    rcases lsr_is u v with e | e <;> rw [e] <;> assumption
theorem kept_les {n : Nat} {ts us : List Int} {qs : List (Int × Int)} (hn : n ≤ 4) (hl : ts.length = n * n) (hu : us.length = n * n) (ht : MayD n ts) (hm : MayD n us) (hq : MayT qs) (hqn : qs.length = n) :
    keptAll n (lesT ts us) qs ↔ keptAll n ts qs ∧ keptAll n us qs := by
  have key : ∀ i j, i < n → j < n → (kp n (lesT ts us) qs i j = true ↔ kp n ts qs i j = true ∧ kp n us qs i j = true) := fun i j hi hj => by
    have e : tat (lesT ts us) n i j = lsr (tat ts n i j) (tat us n i j) := lesT_at _ _ (by rw [hl]; exact place_le hn hi hj)
    unfold kp
    rw [e]
    exact kpV_lsr (hq i (by omega)) (hq j (by omega)) (fine_at hl hn ht.2.2.2 hi hj) (fine_at hu hn hm.2.2.2 hi hj)
  exact ⟨fun h => ⟨fun i j hi hj => ((key i j hi hj).1 (h i j hi hj)).1, fun i j hi hj => ((key i j hi hj).1 (h i j hi hj)).2⟩, fun h i j hi hj => (key i j hi hj).2 ⟨h.1 i j hi hj, h.2 i j hi hj⟩⟩
/-- of what is closed. -/
theorem kept_cl {n : Nat} {L : List Int} {qs : List (Int × Int)} (h0 : 0 < n) (hn : n ≤ 4) (hl : L.length = n * n) (htop : Tops L) (hok : OkD n L) (hc : MayD n (clT n L)) (hq : MayT qs) (hqn : qs.length = n) : keptAll n (clT n L) qs ↔ keptAll n L qs := by
  have hC : clT n L = tabs n h0 L n := clT_nat h0 L
  rw [hC] at hc ⊢
  have hlc : (tabs n h0 L n).length = n * n := (tabs_length _ _ _ _).trans hl
  exact (kept_same h0 hn hl htop hok.1.2.2.2 hq hqn (fun k hk => hok.2.2 k (by simpa using hk)) (fun i j hi hj => fine_at hlc hn hc.2.2.2 hi hj)).symm
/-- an empty one is kept by none. -/
theorem kept_no {n : Nat} {L : List Int} {qs : List (Int × Int)} (h0 : 0 < n) (hn : n ≤ 4) (hl : L.length = n * n) (htop : Tops L) (hm : MayD n L) (hok : ¬ OkD n L) (hq : MayT qs) (hqn : qs.length = n) : ¬ keptAll n L qs := fun h => by
  have := kept_closed h0 hn hl htop hm.2.2.2 hq hqn h
  exact hok ⟨hm, by simpa using h0, fun k hk => this k (by simpa using hk)⟩

end Go.Proofs.YthljhijcmdnonaaGreatDoor.tkept

namespace Go.Proofs.YthljhijcmdnonaaGreatDoor.tkept
open num dbm rat Go.Proofs.YthljhijcmdnonaaGreatDoor.tight
open bound hiding up
set_option linter.unusedVariables false

/-- is a time above a span's low end? .. below its high one? -/
def inl (lo : Int) (ls : Bool) (a b : Int) : Bool := if ls then decide (lo * b < a) else decide (lo * b ≤ a)
def inh (hi : Int) (hs : Bool) (a b : Int) : Bool := if hs then decide (a < hi * b) else decide (a ≤ hi * b)
theorem mk_fine2 {c : Int} (h : In c) (s : Bool) : Fine (mk c s) := .inr (by rw [mk_half]; exact h)
theorem zero_may : MayR 0 1 := ⟨by decide, by decide, by decide, by decide, by decide⟩
end Go.Proofs.YthljhijcmdnonaaGreatDoor.tkept
