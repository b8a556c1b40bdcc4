
/-
  What the calls of cover answer, as relations (R: how a zone less some is gathered, by the program or by the document); what the laws need of them; each theorem names its conditions.
-/
import Derived.Test.YthljhijcmdnonaaGreatDoorCoverA
import Derived.Test.YthljhijcmdnonaaGreatDoorMinusE
namespace Go.Proofs.YthljhijcmdnonaaGreatDoor.cover
open way num rat dbm Go.Proofs.YthljhijcmdnonaaGreatDoor.tight Go.Proofs.YthljhijcmdnonaaGreatDoor.tkept Go.Proofs.YthljhijcmdnonaaGreatDoor.incl Go.Proofs.YthljhijcmdnonaaGreatDoor.zone Go.Proofs.YthljhijcmdnonaaGreatDoor.win Go.Proofs.YthljhijcmdnonaaGreatDoor.minus Go.Proofs.YthljhijcmdnonaaGreatDoor.mz
open bound hiding up
set_option linter.unusedVariables false
set_option linter.unusedSimpArgs false
set_option linter.unusedSectionVars false

abbrev Rel := List (List Int) → List (List Int) → List (List Int) → Int → Prop
/-- the error of two lists of zones. -/
def ChkR (a b : List (List Int)) (f : Int) : Prop := ((4096 < a.length ∨ 4096 < b.length) ∧ f = 4) ∨ (a.length ≤ 4096 ∧ b.length ≤ 4096 ∧ ¬ ((∀ x, x ∈ a → MayZ x) ∧ ∀ x, x ∈ b → MayZ x) ∧ f = 8) ∨ (a.length ≤ 4096 ∧ b.length ≤ 4096 ∧ (∀ x, x ∈ a → MayZ x) ∧ (∀ x, x ∈ b → MayZ x) ∧ f = 0)
def CovX (R : Rel) (z : List Int) (l : List (List Int)) (is : Bool) (f : Int) : Prop := ∃ n, R l [z] n f ∧ is = decide (f = 0 ∧ n = [])
def InX (R : Rel) (z : List Int) (l : List (List Int)) (is : Bool) (f : Int) : Prop := ∃ c, ChkR l [z] c ∧ ((c ≠ 0 ∧ is = false ∧ f = c) ∨ (c = 0 ∧ CovX R z l is f))
def AllX (R : Rel) (a b : List (List Int)) (is : Bool) (f : Int) : Prop := ∃ c, ChkR a b c ∧ ((c ≠ 0 ∧ is = false ∧ f = c) ∨ (c = 0 ∧ Alls R b a is f))
def PruX (R : Rel) (l r : List (List Int)) (f : Int) : Prop := ∃ c, ChkR l [] c ∧ ((c ≠ 0 ∧ r = [] ∧ f = c) ∨ (c = 0 ∧ Want R (srt l).length (srt l) r f))
def WitX (R : Rel) (z : List Int) (l : List (List Int)) (p : Pt) (f : Int) : Prop := ∃ c, ChkR l [z] c ∧ ((c ≠ 0 ∧ p = (0, 0, 0, 0) ∧ f = c) ∨ (c = 0 ∧ ∃ n e, R l [z] n e ∧ ((e ≠ 0 ∧ p = (0, 0, 0, 0) ∧ f = e) ∨ (e = 0 ∧ n = [] ∧ p = (0, 0, 0, 0) ∧ f = 6) ∨ (e = 0 ∧ n ≠ [] ∧ pks 3 (fullT (zat n 0)) = [(p.1, p.2.1), (p.2.2.1, p.2.2.2)] ∧ f = 0))))
theorem chk_same {a b : List (List Int)} {f g : Int} (h : ChkR a b f) (k : ChkR a b g) : g = f := by
  rcases h with ⟨h1, h2⟩ | ⟨h1, h2, h3, h4⟩ | ⟨h1, h2, h3, h4, h5⟩ <;> rcases k with ⟨k1, k2⟩ | ⟨k1, k2, k3, k4⟩ | ⟨k1, k2, k3, k4, k5⟩
  all_goals first | omega | exact (h3 ⟨k3, k4⟩).elim | exact (k3 ⟨h3, h4⟩).elim
theorem chk_any {a b a' b' : List (List Int)} {f g : Int} (la : a.length ≤ 4096) (lb : b.length ≤ 4096) (la' : a'.length ≤ 4096) (lb' : b'.length ≤ 4096) (ha : ∀ x, x ∈ a ↔ x ∈ a') (hb : ∀ x, x ∈ b ↔ x ∈ b') (h : ChkR a b f) (k : ChkR a' b' g) : g = f := by
  rcases h with ⟨h1, h2⟩ | ⟨h1, h2, h3, h4⟩ | ⟨h1, h2, h3, h4, h5⟩ <;> rcases k with ⟨k1, k2⟩ | ⟨k1, k2, k3, k4⟩ | ⟨k1, k2, k3, k4, k5⟩
  all_goals first | omega | exact (h3 ⟨fun x hx => k3 x ((ha x).1 hx), fun x hx => k4 x ((hb x).1 hx)⟩).elim | exact (k3 ⟨fun x hx => h3 x ((ha x).2 hx), fun x hx => h4 x ((hb x).2 hx)⟩).elim
theorem chk_zo {a b : List (List Int)} {f : Int} (ha : Six a) (hb : Six b) (h : ChkR a b f) (k : f = 0) : (∀ x, x ∈ a → Zo x) ∧ (∀ x, x ∈ b → Zo x) ∧ a.length ≤ 4096 ∧ b.length ≤ 4096 := by
  rcases h with ⟨h1, h2⟩ | ⟨h1, h2, h3, h4⟩ | ⟨h1, h2, h3, h4, h5⟩
  · omega
  · omega
  · exact ⟨ha.zo h3, hb.zo h4, h1, h2⟩
theorem six_one {z : List Int} (hz : z.length = 6) (tz : Tops z) : Six [z] := fun x hx => by rw [List.mem_singleton.1 hx]; exact ⟨hz, tz⟩
theorem six_nil : Six [] := fun x hx => by cases hx
/-- with few zones the program's answers are the document's. -/
theorem in_six {z : List Int} {l : List (List Int)} {is : Bool} {f : Int} (hz : z.length = 6) (tz : Tops z) (hl : Six l) (h6 : l.length ≤ 6) (h : InX RestP z l is f) : InX RestR z l is f := by
  obtain ⟨c, hc, q⟩ := h
  refine ⟨c, hc, ?_⟩
  rcases q with q | ⟨q, n, q1, q2⟩
  · exact .inl q
  · obtain ⟨zl, zz, _, _⟩ := chk_zo hl (six_one hz tz) hc q
    exact .inr ⟨q, n, restP_six h6 zl (zz z List.mem_cons_self) q1, q2⟩
theorem pru_six {l r : List (List Int)} {f : Int} (hl : Six l) (h7 : (srt l).length ≤ 7) (h : PruX RestP l r f) : PruX RestR l r f := by
  obtain ⟨c, hc, q⟩ := h
  refine ⟨c, hc, ?_⟩
  rcases q with q | ⟨q, q1⟩
  · exact .inl q
  · obtain ⟨zl, _, _, _⟩ := chk_zo hl six_nil hc q
    exact .inr ⟨q, want_six _ (Nat.le_refl _) h7 (fun x hx => zl x ((srt_mem l x).1 hx)) q1⟩
theorem wit_six {z : List Int} {l : List (List Int)} {p : Pt} {f : Int} (hz : z.length = 6) (tz : Tops z) (hl : Six l) (h6 : l.length ≤ 6) (h : WitX RestP z l p f) : WitX RestR z l p f := by
  obtain ⟨c, hc, q⟩ := h
  refine ⟨c, hc, ?_⟩
  rcases q with q | ⟨q, n, e, q1, q2⟩
  · exact .inl q
  · obtain ⟨zl, zz, _, _⟩ := chk_zo hl (six_one hz tz) hc q
    exact .inr ⟨q, n, e, restP_six h6 zl (zz z List.mem_cons_self) q1, q2⟩
/-! the document's answers are one each -/
theorem in_same {z : List Int} {l : List (List Int)} {is is' : Bool} {f f' : Int} (h : InX RestR z l is f) (k : InX RestR z l is' f') : is' = is ∧ f' = f := by
  obtain ⟨c, hc, q⟩ := h
  obtain ⟨c', hc', q'⟩ := k
  obtain rfl := chk_same hc hc'
  rcases q with ⟨q, q1, q2⟩ | ⟨q, n, q1, q2⟩ <;> rcases q' with ⟨p, p1, p2⟩ | ⟨p, m, p1, p2⟩
  · exact ⟨p1.trans q1.symm, p2.trans q2.symm⟩
  · exact (q p).elim
  · exact (p q).elim
  · obtain ⟨rfl, rfl⟩ := rest_same l q1 p1
    exact ⟨p2.trans q2.symm, rfl⟩
theorem pru_same {l r r' : List (List Int)} {f f' : Int} (h : PruX RestR l r f) (k : PruX RestR l r' f') : r' = r ∧ f' = f := by
  obtain ⟨c, hc, q⟩ := h
  obtain ⟨c', hc', q'⟩ := k
  obtain rfl := chk_same hc hc'
  rcases q with ⟨q, q1, q2⟩ | ⟨q, q1⟩ <;> rcases q' with ⟨p, p1, p2⟩ | ⟨p, p1⟩
  · exact ⟨p1.trans q1.symm, p2.trans q2.symm⟩
  · exact (q p).elim
  · exact (p q).elim
  · exact want_same _ q1 p1
theorem wit_same {z : List Int} {l : List (List Int)} {p p' : Pt} {f f' : Int} (h : WitX RestR z l p f) (k : WitX RestR z l p' f') : p' = p ∧ f' = f := by
  obtain ⟨c, hc, q⟩ := h
  obtain ⟨c', hc', q'⟩ := k
  obtain rfl := chk_same hc hc'
  rcases q with ⟨q, q1, q2⟩ | ⟨q, n, e, q1, q2⟩ <;> rcases q' with ⟨v, v1, v2⟩ | ⟨v, m, g, v1, v2⟩
  · exact ⟨v1.trans q1.symm, v2.trans q2.symm⟩
  · exact (q v).elim
  · exact (v q).elim
  · obtain ⟨rfl, rfl⟩ := rest_same l q1 v1
    rcases q2 with ⟨q2, q3, q4⟩ | ⟨q2, q3, q4, q5⟩ | ⟨q2, q3, q4, q5⟩ <;> rcases v2 with ⟨v2, v3, v4⟩ | ⟨v2, v3, v4, v5⟩ | ⟨v2, v3, v4, v5⟩
    · exact ⟨v3.trans q3.symm, v4.trans q4.symm⟩
    · exact (q2 v2).elim
    · exact (q2 v2).elim
    · exact (v2 q2).elim
    · exact ⟨v4.trans q4.symm, v5.trans q5.symm⟩
    · exact (v3 q3).elim
    · exact (v2 q2).elim
    · exact (q3 v3).elim
    · obtain ⟨p1, p2, p3, p4⟩ := p
      obtain ⟨r1, r2, r3, r4⟩ := p'
      rw [q4] at v4
      injection v4 with x1 x2
      injection x2 with x2 _
      injection x1 with x1 y1
      injection x2 with x2 y2
      exact ⟨by dsimp only at x1 y1 x2 y2; rw [x1, y1, x2, y2], v5.trans q5.symm⟩
/-! zones put in order, the least one that is left at a time -/
/-- the first ones of some, in their order. -/
def Head (l out : List (List Int)) : Prop := Srt out ∧ (∀ x, x ∈ out → x ∈ l) ∧ ∀ x, x ∈ l → x ∈ out ∨ ∀ y, y ∈ out → cmpL y x < 0
/-- behind all of them. -/
def Bh (out : List (List Int)) (x : List Int) : Prop := out.length = 0 ∨ 0 < cmpL x (zat out (out.length - 1))
/-- the least of the first few that are behind; none: -1. -/
def Best (l out : List (List Int)) (i : Nat) (b : Int) : Prop := (b = -1 ∧ ∀ j, j < i → ¬ Bh out (zat l j)) ∨ ∃ k : Nat, b = (k : Int) ∧ k < i ∧ Bh out (zat l k) ∧ ∀ j, j < i → Bh out (zat l j) → cmpL (zat l k) (zat l j) ≤ 0
theorem take_one {l : List (List Int)} {i : Nat} (h : i < l.length) : l.take (i + 1) = l.take i ++ [zat l i] := by
  rw [List.take_add_one, List.getElem?_eq_getElem h]
  unfold zat
  rw [List.getElem?_eq_getElem h]
  rfl
theorem era_cut (l : List (List Int)) (a : Nat) : l.eraseIdx a = l.take a ++ l.drop (a + 1) := List.eraseIdx_eq_take_drop_succ l a
theorem zat_take {l : List (List Int)} {k j : Nat} (h : j < k) : zat (l.take k) j = zat l j := by
  unfold zat
  rw [List.getElem?_take, if_pos h]
theorem zat_drop (l : List (List Int)) (k j : Nat) : zat (l.drop k) j = zat l (k + j) := by
  unfold zat
  rw [List.getElem?_drop]
theorem zs_take {W : World} {b off cap cap' : Nat} {l : List (List Int)} {n₀ : Nat} (h : Zs n₀ W (.slice (some ⟨b, off, none⟩) l.length cap) l) (k : Nat) (hk : k ≤ l.length) : Zs n₀ W (.slice (some ⟨b, off, none⟩) k cap') (l.take k) := by
  have hl : (l.take k).length = k := by simp; omega
  rcases h with ⟨⟨a, c, e, _⟩, rfl⟩ | ⟨b', off', c', e, hb, hc⟩
  · have : k = 0 := by simpa using hk
    subst this
    exact .inl ⟨⟨_, cap', rfl, fun h => by cases h⟩, rfl⟩
  · injection e with e1 e2 e3
    injection e1 with e1
    injection e1 with e1 e4
    subst e1 e4
    refine .inr ⟨b, off, cap', by rw [hl], hb, fun j hj i hi => ?_⟩
    rw [zat_take (by omega)]
    exact hc j (by omega) i hi
theorem zs_drop {W : World} {b off cap cap' : Nat} {l : List (List Int)} {n₀ : Nat} (h : Zs n₀ W (.slice (some ⟨b, off, none⟩) l.length cap) l) (k : Nat) (hk : k ≤ l.length) : Zs n₀ W (.slice (some ⟨b, off + k * 6, none⟩) (l.length - k) cap') (l.drop k) := by
  have hl : (l.drop k).length = l.length - k := by simp
  rcases h with ⟨⟨a, c, e, _⟩, rfl⟩ | ⟨b', off', c', e, hb, hc⟩
  · exact .inl ⟨⟨_, cap', by rw [show ([] : List (List Int)).length - k = 0 from Nat.zero_sub k], fun h => by cases h⟩, List.drop_nil⟩
  · injection e with e1 e2 e3
    injection e1 with e1
    injection e1 with e1 e4
    subst e1 e4
    refine .inr ⟨b, off + k * 6, cap', by rw [hl], hb, fun j hj i hi => ?_⟩
    rw [zat_drop]
    have := hc (k + j) (by omega) i hi
    rwa [show off + k * 6 + j * 6 + i = off + (k + j) * 6 + i from by omega]
theorem zs_end {W : World} {a : Option Addr} {l : List (List Int)} {n₀ k : Nat} (ha : a ≠ none) (hk : l.length ≤ k) : Zs n₀ W (.slice a 0 0) (l.drop k) := .inl ⟨⟨a, 0, rfl, fun _ => rfl⟩, List.drop_eq_nil_of_le hk⟩
end Go.Proofs.YthljhijcmdnonaaGreatDoor.cover
