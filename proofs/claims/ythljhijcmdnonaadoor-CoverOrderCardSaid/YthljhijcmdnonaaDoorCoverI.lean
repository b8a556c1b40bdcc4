
/-
  What the calls of cover answer, as relations (R: how a zone less some is gathered, by the program or by the document); what the laws need of them; each theorem names its conditions.
-/
import Derived.Test.YthljhijcmdnonaaDoorCoverA
import Derived.Test.YthljhijcmdnonaaDoorMinusE
namespace Go.Proofs.YthljhijcmdnonaaDoor.cover
open way num rat dbm Go.Proofs.YthljhijcmdnonaaDoor.tight Go.Proofs.YthljhijcmdnonaaDoor.tkept Go.Proofs.YthljhijcmdnonaaDoor.incl Go.Proofs.YthljhijcmdnonaaDoor.zone Go.Proofs.YthljhijcmdnonaaDoor.win Go.Proofs.YthljhijcmdnonaaDoor.minus Go.Proofs.YthljhijcmdnonaaDoor.mz
open bound hiding up
set_option linter.unusedVariables false
set_option linter.unusedSimpArgs false
set_option linter.unusedSectionVars false

abbrev Rel := List (List Int) → List (List Int) → List (List Int) → Int → Prop
/-- the error of two lists of zones. -/
def ChkR (a b : List (List Int)) (f : Int) : Prop := ((4096 < a.length ∨ 4096 < b.length) ∧ f = 4) ∨ (a.length ≤ 4096 ∧ b.length ≤ 4096 ∧ ¬ ((∀ x, x ∈ a → MayZ x) ∧ ∀ x, x ∈ b → MayZ x) ∧ f = 8) ∨ (a.length ≤ 4096 ∧ b.length ≤ 4096 ∧ (∀ x, x ∈ a → MayZ x) ∧ (∀ x, x ∈ b → MayZ x) ∧ f = 0)
def CovX (R : Rel) (z : List Int) (l : List (List Int)) (is : Bool) (f : Int) : Prop := ∃ n, R l [z] n f ∧ is = decide (f = 0 ∧ n = [])
def InX (R : Rel) (z : List Int) (l : List (List Int)) (is : Bool) (f : Int) : Prop := ∃ c, ChkR l [z] c ∧ ((c ≠ 0 ∧ is = false ∧ f = c) ∨ (c = 0 ∧ CovX R z l is f))
def AllX (R : Rel) (a b : List (List Int)) (is : Bool) (f : Int) : Prop := ∃ c, ChkR a b c ∧ ((c ≠ 0 ∧ is = false ∧ f = c) ∨ (c = 0 ∧ Alls R b a is f))
def PruX (R : Rel) (l r : List (List Int)) (f : Int) : Prop := ∃ c, ChkR l [] c ∧ ((c ≠ 0 ∧ r = [] ∧ f = c) ∨ (c = 0 ∧ Want R (srt l).length (srt l) r f))
def WitX (R : Rel) (z : List Int) (l : List (List Int)) (p : Pt) (f : Int) : Prop := ∃ c, ChkR l [z] c ∧ ((c ≠ 0 ∧ p = (0, 0, 0, 0) ∧ f = c) ∨ (c = 0 ∧ ∃ n e, R l [z] n e ∧ ((e ≠ 0 ∧ p = (0, 0, 0, 0) ∧ f = e) ∨ (e = 0 ∧ n = [] ∧ p = (0, 0, 0, 0) ∧ f = 6) ∨ (e = 0 ∧ n ≠ [] ∧ pks 3 (fullT (zat n 0)) = [(p.1, p.2.1), (p.2.2.1, p.2.2.2)] ∧ f = 0))))
theorem chk_same {a b : List (List Int)} {f g : Int} (h : ChkR a b f) (k : ChkR a b g) : g = f := by
  rcases h with ⟨h1, h2⟩ | ⟨h1, h2, h3, h4⟩ | ⟨h1, h2, h3, h4, h5⟩ <;> rcases k with ⟨k1, k2⟩ | ⟨k1, k2, k3, k4⟩ | ⟨k1, k2, k3, k4, k5⟩
  all_goals first | omega | exact (h3 ⟨k3, k4⟩).elim | exact (k3 ⟨h3, h4⟩).elim
theorem chk_any {a b a' b' : List (List Int)} {f g : Int} (la : a.length ≤ 4096) (lb : b.length ≤ 4096) (la' : a'.length ≤ 4096) (lb' : b'.length ≤ 4096) (ha : ∀ x, x ∈ a ↔ x ∈ a') (hb : ∀ x, x ∈ b ↔ x ∈ b') (h : ChkR a b f) (k : ChkR a' b' g) : g = f := by
  rcases h with ⟨h1, h2⟩ | ⟨h1, h2, h3, h4⟩ | ⟨h1, h2, h3, h4, h5⟩ <;> rcases k with ⟨k1, k2⟩ | ⟨k1, k2, k3, k4⟩ | ⟨k1, k2, k3, k4, k5⟩
  all_goals first | omega | exact (h3 ⟨fun x hx => k3 x ((ha x).1 hx), fun x hx => k4 x ((hb x).1 hx)⟩).elim | exact (k3 ⟨fun x hx => h3 x ((ha x).2 hx), fun x hx => h4 x ((hb x).2 hx)⟩).elim
theorem chk_zo {a b : List (List Int)} {f : Int} (ha : Six a) (hb : Six b) (h : ChkR a b f) (k : f = 0) : (∀ x, x ∈ a → Zo x) ∧ (∀ x, x ∈ b → Zo x) ∧ a.length ≤ 4096 ∧ b.length ≤ 4096 := by
  rcases h with ⟨h1, h2⟩ | ⟨h1, h2, h3, h4⟩ | ⟨h1, h2, h3, h4, h5⟩
  · omega
  · omega
  · exact ⟨ha.zo h3, hb.zo h4, h1, h2⟩
theorem six_one {z : List Int} (hz : z.length = 6) (tz : Tops z) : Six [z] := fun x hx => by rw [List.mem_singleton.1 hx]; exact ⟨hz, tz⟩
theorem six_sub {a b : List (List Int)} (h : Six a) (k : ∀ x, x ∈ b → x ∈ a) : Six b := fun x hx => h x (k x hx)
theorem six_nil : Six [] := fun x hx => by cases hx
/-- with few zones the program's answers are the document's. -/
theorem in_six {z : List Int} {l : List (List Int)} {is : Bool} {f : Int} (hz : z.length = 6) (tz : Tops z) (hl : Six l) (h6 : l.length ≤ 6) (h : InX RestP z l is f) : InX RestR z l is f := by
  obtain ⟨c, hc, q⟩ := h
  refine ⟨c, hc, ?_⟩
  rcases q with q | ⟨q, n, q1, q2⟩
  · exact .inl q
  · obtain ⟨zl, zz, _, _⟩ := chk_zo hl (six_one hz tz) hc q
    exact .inr ⟨q, n, restP_six h6 zl (zz z List.mem_cons_self) q1, q2⟩
theorem pru_six {l r : List (List Int)} {f : Int} (hl : Six l) (h7 : (srt l).length ≤ 7) (h : PruX RestP l r f) : PruX RestR l r f := by
  obtain ⟨c, hc, q⟩ := h
  refine ⟨c, hc, ?_⟩
  rcases q with q | ⟨q, q1⟩
  · exact .inl q
  · obtain ⟨zl, _, _, _⟩ := chk_zo hl six_nil hc q
    exact .inr ⟨q, want_six _ (Nat.le_refl _) h7 (fun x hx => zl x ((srt_mem l x).1 hx)) q1⟩
theorem wit_six {z : List Int} {l : List (List Int)} {p : Pt} {f : Int} (hz : z.length = 6) (tz : Tops z) (hl : Six l) (h6 : l.length ≤ 6) (h : WitX RestP z l p f) : WitX RestR z l p f := by
  obtain ⟨c, hc, q⟩ := h
  refine ⟨c, hc, ?_⟩
  rcases q with q | ⟨q, n, e, q1, q2⟩
  · exact .inl q
  · obtain ⟨zl, zz, _, _⟩ := chk_zo hl (six_one hz tz) hc q
    exact .inr ⟨q, n, e, restP_six h6 zl (zz z List.mem_cons_self) q1, q2⟩
/-! the document's answers are one each -/
theorem in_same {z : List Int} {l : List (List Int)} {is is' : Bool} {f f' : Int} (h : InX RestR z l is f) (k : InX RestR z l is' f') : is' = is ∧ f' = f := by
  obtain ⟨c, hc, q⟩ := h
  obtain ⟨c', hc', q'⟩ := k
  obtain rfl := chk_same hc hc'
  rcases q with ⟨q, q1, q2⟩ | ⟨q, n, q1, q2⟩ <;> rcases q' with ⟨p, p1, p2⟩ | ⟨p, m, p1, p2⟩
  · exact ⟨p1.trans q1.symm, p2.trans q2.symm⟩
  · exact (q p).elim
  · exact (p q).elim
  · obtain ⟨rfl, rfl⟩ := rest_same l q1 p1
    exact ⟨p2.trans q2.symm, rfl⟩
/-- what is wanted does not hang on the zones' order, nor on how often each stands there. -/
theorem pru_order {l m r s : List (List Int)} {e f : Int} (hl : Six l) (l6 : l.length ≤ 6) (lm : m.length ≤ 4096) (hm : ∀ x, x ∈ l ↔ x ∈ m) (h : PruX RestP l r e) (k : PruX RestP m s f) : s = r ∧ f = e := by
  have es := srt_any hm
  have sl := srt_len l
  have h' := pru_six hl (by omega) h
  have k' := pru_six (six_sub hl fun x hx => (hm x).2 hx) (by rw [← es]; omega) k
  obtain ⟨c, hc, q⟩ := h'
  obtain ⟨c', hc', q'⟩ := k'
  obtain rfl := chk_any (by omega) (by decide) lm (by decide) hm (fun _ => Iff.rfl) hc hc'
  rw [← es] at q'
  rcases q with ⟨q, q1, q2⟩ | ⟨q, q1⟩ <;> rcases q' with ⟨p, p1, p2⟩ | ⟨p, p1⟩
  · exact ⟨p1.trans q1.symm, p2.trans q2.symm⟩
  · exact (q p).elim
  · exact (p q).elim
  · exact want_same _ q1 p1
theorem pru_err {l r : List (List Int)} {f : Int} (hl : Six l) (l6 : l.length ≤ 6) (h : PruX RestP l r f) (hf : f ≠ 0) : r = [] := by
  have sl := srt_len l
  obtain ⟨c, hc, q⟩ := pru_six hl (by omega) h
  rcases q with ⟨_, q1, _⟩ | ⟨q, q1⟩
  · exact q1
  · exact want_err _ q1 hf
/-- what is wanted, where it is answered. -/
theorem pru_ok {l r : List (List Int)} (hl : Six l) (l6 : l.length ≤ 6) (h : PruX RestP l r 0) :
    (∀ x, x ∈ l → Zo x) ∧ (∀ x, x ∈ r → Zo x) ∧ r.length ≤ 6 ∧ Srt r ∧ (∀ x, x ∈ r → Own r x) ∧ ∀ p, MayQ p → ((∃ b, b ∈ l ∧ hasP b p = true) ↔ ∃ b, b ∈ r ∧ hasP b p = true) := by
  have sl := srt_len l
  obtain ⟨c, hc, q⟩ := pru_six hl (by omega) h
  rcases q with ⟨q, q1, q2⟩ | ⟨q, q1⟩
  · exact (q q2.symm).elim
  · obtain ⟨zl, _, _, _⟩ := chk_zo hl six_nil hc q
    have zs : ∀ x, x ∈ srt l → Zo x := fun x hx => zl x ((srt_mem l x).1 hx)
    have su := want_sub _ q1
    have le := su.length_le
    refine ⟨zl, fun x hx => zs x (su.subset hx), by omega, srt_sub (srt_is l) su, want_own _ (Nat.le_refl _) zs q1 (fun j h1 h2 => by omega), fun p m => ?_⟩
    rw [← want_has _ (Nat.le_refl _) zs q1 p m]
    exact ⟨fun ⟨b, hb, k⟩ => ⟨b, (srt_mem l b).2 hb, k⟩, fun ⟨b, hb, k⟩ => ⟨b, (srt_mem l b).1 hb, k⟩⟩
/-- covered by some, covered by one more. -/
theorem more_in {z b : List Int} {l : List (List Int)} {both : Bool} {g : Int} (hz : z.length = 6) (tz : Tops z) (hb : b.length = 6) (tb : Tops b) (hl : Six l) (h : InX RestP z l true 0) (j : InX RestP z (l ++ [b]) both g) : g ≠ 0 ∨ both = true := by
  obtain ⟨c, hc, q⟩ := h
  obtain ⟨d, hd, w⟩ := j
  rcases w with ⟨w1, w2, w3⟩ | ⟨w, n, w1, w2⟩
  · exact .inl (by rw [w3]; exact w1)
  · by_cases e : g = 0
    · subst e
      have hs : Six (l ++ [b]) := fun x hx => by
        rcases List.mem_append.1 hx with y | y
        · exact hl x y
        · rw [List.mem_singleton.1 y]; exact ⟨hb, tb⟩
      obtain ⟨zc, zz, _, _⟩ := chk_zo hs (six_one hz tz) hd w
      have zz := zz z List.mem_cons_self
      rcases q with ⟨_, q, _⟩ | ⟨q, m, q1, q2⟩
      · exact absurd q (by decide)
      · have mn := (of_decide_eq_true q2.symm).2
        have : n = [] := more_nil (fun x hx => zc x (List.mem_append.2 (.inl hx))) zc zz (fun x hx => List.mem_append.2 (.inl hx)) q1 w1 mn
        exact .inr (by rw [w2, decide_eq_true ⟨rfl, this⟩])
    · exact .inl e
/-- whether it is covered, and its witness. -/
theorem wit_facts {z : List Int} {l : List (List Int)} {is : Bool} {e f : Int} {p : Pt} (hz : z.length = 6) (tz : Tops z) (hl : Six l) (l6 : l.length ≤ 6) (h : InX RestP z l is e) (k : WitX RestP z l p f) :
    (e ≠ 0 ∧ f = e ∧ is = false) ∨ (e = 0 ∧ is = true ∧ f = 6) ∨ (e = 0 ∧ is = false ∧ f = 0 ∧ MayQ p ∧ zone.Fit [p.1, p.2.1, p.2.2.1, p.2.2.2] ∧ Zo z ∧ (∀ x, x ∈ l → Zo x) ∧ hasP z p = true ∧ ∀ x, x ∈ l → hasP x p = false) := by
  have h' := in_six hz tz hl l6 h
  have k' := wit_six hz tz hl l6 k
  obtain ⟨c, hc, q⟩ := h'
  obtain ⟨c', hc', q'⟩ := k'
  obtain rfl := chk_same hc hc'
  rcases q with ⟨q, q1, q2⟩ | ⟨q, n, q1, q2⟩ <;> rcases q' with ⟨v, v1, v2⟩ | ⟨v, m, u, v1, v2⟩
  · exact .inl ⟨by rw [q2]; exact q, v2.trans q2.symm, q1⟩
  · exact (q v).elim
  · exact (v q).elim
  · obtain ⟨rfl, rfl⟩ := rest_same l q1 v1
    obtain ⟨zl, zz, _, _⟩ := chk_zo hl (six_one hz tz) hc q
    have zz := zz z List.mem_cons_self
    rcases v2 with ⟨v2, v3, v4⟩ | ⟨v2, v3, v4, v5⟩ | ⟨v2, v3, v4, v5⟩
    · exact .inl ⟨v2, v4, by rw [q2, decide_eq_false]; exact fun w => v2 w.1⟩
    · exact .inr (.inl ⟨v2, by rw [q2, decide_eq_true ⟨v2, v3⟩], v5⟩)
    · subst v2
      refine .inr (.inr ⟨rfl, by rw [q2, decide_eq_false]; exact fun w => v3 w.2, v5, ?_⟩)
      obtain ⟨y, m', rfl⟩ := List.exists_cons_of_ne_nil v3
      rw [show zat (y :: m') 0 = y from rfl] at v4
      have zy : Zo y := rest_zo l zl (fun x hx => by rw [List.mem_singleton.1 hx]; exact zz) q1 y List.mem_cons_self
      have h9 : (fullT y).length = 3 * 3 := full_length y
      have ht : Tops (fullT y) := full_tops zy.2.1
      have kk := pks_kept (n := 3) (ts := fullT y) (by decide) (by decide) h9 ht zy.1.1
      obtain ⟨mm, m4, _⟩ := pks_may (n := 3) (ts := fullT y) (by decide) (by decide) h9 ht zy.1.1
      rw [v4] at kk mm m4
      have m1 : MayR p.1 p.2.1 := mm 1 (by simp)
      have m2 : MayR p.2.2.1 p.2.2.2 := mm 2 (by simp)
      have hy : hasP y p = true := (has_kept m1 m2).2 kk
      obtain ⟨g1, g2⟩ := rest_point zl zz q1 List.mem_cons_self (p := p) ⟨m1, m2⟩ hy
      refine ⟨⟨m1, m2⟩, fun x hx => ?_, zz, zl, g1, g2⟩
      have k1 := m4 1 (show 1 < 3 by decide)
      have k2 := m4 2 (show 2 < 3 by decide)
      simp only [List.mem_cons, List.not_mem_nil, or_false] at hx
      rcases hx with rfl | rfl | rfl | rfl
      · exact k1.1
      · exact k1.2
      · exact k2.1
      · exact k2.2
/-! zones put in order, the least one that is left at a time -/
/-- the first ones of some, in their order. -/
def Head (l out : List (List Int)) : Prop := Srt out ∧ (∀ x, x ∈ out → x ∈ l) ∧ ∀ x, x ∈ l → x ∈ out ∨ ∀ y, y ∈ out → cmpL y x < 0
/-- behind all of them. -/
def Bh (out : List (List Int)) (x : List Int) : Prop := out.length = 0 ∨ 0 < cmpL x (zat out (out.length - 1))
/-- the least of the first few that are behind; none: -1. -/
def Best (l out : List (List Int)) (i : Nat) (b : Int) : Prop := (b = -1 ∧ ∀ j, j < i → ¬ Bh out (zat l j)) ∨ ∃ k : Nat, b = (k : Int) ∧ k < i ∧ Bh out (zat l k) ∧ ∀ j, j < i → Bh out (zat l j) → cmpL (zat l k) (zat l j) ≤ 0
theorem take_one {l : List (List Int)} {i : Nat} (h : i < l.length) : l.take (i + 1) = l.take i ++ [zat l i] := by
  rw [List.take_add_one, List.getElem?_eq_getElem h]
  unfold zat
  rw [List.getElem?_eq_getElem h]
  rfl
theorem era_cut (l : List (List Int)) (a : Nat) : l.eraseIdx a = l.take a ++ l.drop (a + 1) := List.eraseIdx_eq_take_drop_succ l a
theorem cnt_none {l : List (List Int)} {p : Pt} (h : ∀ x, x ∈ l → hasP x p = false) : cnt l p.1 p.2.1 p.2.2.1 p.2.2.2 = 0 := by
  by_cases e : 0 < cnt l p.1 p.2.1 p.2.2.1 p.2.2.2
  · obtain ⟨b, h1, h2⟩ := cnt_zero.1 e
    rw [h b h1] at h2
    cases h2
  · omega
theorem zat_take {l : List (List Int)} {k j : Nat} (h : j < k) : zat (l.take k) j = zat l j := by
  unfold zat
  rw [List.getElem?_take, if_pos h]
theorem zat_drop (l : List (List Int)) (k j : Nat) : zat (l.drop k) j = zat l (k + j) := by
  unfold zat
  rw [List.getElem?_drop]
theorem zs_take {W : World} {b off cap cap' : Nat} {l : List (List Int)} {n₀ : Nat} (h : Zs n₀ W (.slice (some ⟨b, off, none⟩) l.length cap) l) (k : Nat) (hk : k ≤ l.length) : Zs n₀ W (.slice (some ⟨b, off, none⟩) k cap') (l.take k) := by
  have hl : (l.take k).length = k := by simp; omega
  rcases h with ⟨⟨a, c, e, _⟩, rfl⟩ | ⟨b', off', c', e, hb, hc⟩
  · have : k = 0 := by simpa using hk
    subst this
    exact .inl ⟨⟨_, cap', rfl, fun h => by cases h⟩, rfl⟩
  · injection e with e1 e2 e3
    injection e1 with e1
    injection e1 with e1 e4
    subst e1 e4
    refine .inr ⟨b, off, cap', by rw [hl], hb, fun j hj i hi => ?_⟩
    rw [zat_take (by omega)]
    exact hc j (by omega) i hi
theorem zs_drop {W : World} {b off cap cap' : Nat} {l : List (List Int)} {n₀ : Nat} (h : Zs n₀ W (.slice (some ⟨b, off, none⟩) l.length cap) l) (k : Nat) (hk : k ≤ l.length) : Zs n₀ W (.slice (some ⟨b, off + k * 6, none⟩) (l.length - k) cap') (l.drop k) := by
  have hl : (l.drop k).length = l.length - k := by simp
  rcases h with ⟨⟨a, c, e, _⟩, rfl⟩ | ⟨b', off', c', e, hb, hc⟩
  · exact .inl ⟨⟨_, cap', by rw [show ([] : List (List Int)).length - k = 0 from Nat.zero_sub k], fun h => by cases h⟩, List.drop_nil⟩
  · injection e with e1 e2 e3
    injection e1 with e1
    injection e1 with e1 e4
    subst e1 e4
    refine .inr ⟨b, off + k * 6, cap', by rw [hl], hb, fun j hj i hi => ?_⟩
    rw [zat_drop]
    have := hc (k + j) (by omega) i hi
    rwa [show off + k * 6 + j * 6 + i = off + (k + j) * 6 + i from by omega]
theorem zs_end {W : World} {a : Option Addr} {l : List (List Int)} {n₀ k : Nat} (ha : a ≠ none) (hk : l.length ≤ k) : Zs n₀ W (.slice a 0 0) (l.drop k) := .inl ⟨⟨a, 0, rfl, fun _ => rfl⟩, List.drop_eq_nil_of_le hk⟩
end Go.Proofs.YthljhijcmdnonaaDoor.cover
