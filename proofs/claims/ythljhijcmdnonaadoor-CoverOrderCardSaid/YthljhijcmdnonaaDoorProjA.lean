/-
  A matrix laid out of another one's places: what a clock more, a clock less and another order turn; and Drop, Grow and Move as package proj answers them; each theorem names its conditions.
-/
import Derived.Test.YthljhijcmdnonaaDoorDbmD
import Derived.Test.YthljhijcmdnonaaDoorTightD
namespace Go.Proofs.YthljhijcmdnonaaDoor.way
set_option linter.unusedVariables false
set_option linter.unusedSimpArgs false

theorem mn_none (x : B) : mn none x = x := by
  unfold mn
  cases x with
  | none => exact if_pos (le_refl _)
  | some a => exact if_neg (fun h => h)
theorem F_none {d : Tab} {i : Nat} (h : ∀ j, d i j = none) (k : Nat) : ∀ j, F d k i j = none := by
  induction k with
  | zero => exact h
  | succ k ih =>
    intro j
    show mn (F d k i j) (ad (F d k i k) (F d k k j)) = none
    rw [ih, ih, none_ad]; rfl
theorem F_none2 {d : Tab} {j : Nat} (h : ∀ i, d i j = none) (k : Nat) : ∀ i, F d k i j = none := by
  induction k with
  | zero => exact h
  | succ k ih =>
    intro i
    show mn (F d k i j) (ad (F d k i k) (F d k k j)) = none
    rw [ih, ih, ad_none]; rfl
/-- a clock more, of which nothing is said but that of itself. -/
def more (d : Tab) (n : Nat) : Tab := fun i j => if i = n ∧ j = n then one else d i j
theorem F_more {d : Tab} {n : Nat} (h1 : ∀ i, ¬ i < n → ∀ j, d i j = none) (h2 : ∀ j, ¬ j < n → ∀ i, d i j = none) : ∀ k, k ≤ n → ∀ i j, F (more d n) k i j = more (F d k) n i j := by
  intro k
  induction k with
  | zero => intro _ i j; rfl
  | succ k ih =>
    intro hk i j
    have ihk := ih (by omega)
    show mn (F (more d n) k i j) (ad (F (more d n) k i k) (F (more d n) k k j)) = _
    rw [ihk, ihk, ihk]
    unfold more
    have e1 : ¬ (i = n ∧ k = n) := fun h => by omega
    have e2 : ¬ (k = n ∧ j = n) := fun h => by omega
    rw [if_neg e1, if_neg e2]
    by_cases h : i = n ∧ j = n
    · rw [if_pos h, if_pos h, h.1, F_none (h1 n (by omega)) k, none_ad]; rfl
    · rw [if_neg h, if_neg h]; rfl
theorem F_more_all {d : Tab} {n : Nat} (h1 : ∀ i, ¬ i < n → ∀ j, d i j = none) (h2 : ∀ j, ¬ j < n → ∀ i, d i j = none) (i j : Nat) : F (more d n) (n + 1) i j = more (F d n) n i j := by
  show mn (F (more d n) n i j) (ad (F (more d n) n i n) (F (more d n) n n j)) = _
  rw [F_more h1 h2 n (Nat.le_refl _), F_more h1 h2 n (Nat.le_refl _), F_more h1 h2 n (Nat.le_refl _)]
  unfold more
  by_cases hi : i = n
  · by_cases hj : j = n
    · subst hi; subst hj
      rw [if_pos ⟨rfl, rfl⟩, ad_one]
      exact mn_eq_left (le_refl _)
    · subst hi
      rw [if_neg (fun h => hj h.2), if_pos ⟨rfl, rfl⟩, F_none (h1 i (by omega)), ad_none]; rfl
  · rw [if_neg (fun h => hi h.1), if_neg (fun h => hi h.1), F_none2 (h2 n (by omega)), none_ad]
    unfold mn
    rw [if_pos (le_none _)]
theorem good_more {d : Tab} {n : Nat} (h1 : ∀ i, ¬ i < n → ∀ j, d i j = none) (h2 : ∀ j, ¬ j < n → ∀ i, d i j = none) : Good (more d n) (n + 1) ↔ Good d n := by
  have key : ∀ m, Pos (more (F d m) n) ↔ Pos (F d m) := fun m => by
    refine ⟨fun h i => ?_, fun h i => ?_⟩
    · have := h i
      unfold more at this
      by_cases e : i = n
      · rw [e, F_none (h1 n (by omega))]; exact le_none _
      · rwa [if_neg (fun k => e k.1)] at this
    · unfold more
      split
      · exact le_refl _
      · exact h i
  refine ⟨fun h m hm => (key m).1 fun i => ?_, fun h m hm => ?_⟩
  · have := h m (by omega) i
    rwa [F_more h1 h2 m hm] at this
  · by_cases e : m = n + 1
    · subst e
      intro i
      rw [F_more_all h1 h2]
      exact (key n).2 (h n (Nat.le_refl _)) i
    · intro i
      rw [F_more h1 h2 m (by omega)]
      exact (key m).2 (h m (by omega)) i
end Go.Proofs.YthljhijcmdnonaaDoor.way

namespace Go.Proofs.YthljhijcmdnonaaDoor.proj
open num rat way dbm Go.Proofs.YthljhijcmdnonaaDoor.tight
open bound hiding up
set_option linter.unusedVariables false
set_option linter.unusedSectionVars false
set_option linter.unusedSimpArgs false

/-- each clock has what the one that is told of it had; nothing is said of a clock that the other one has not. -/
def laidT (n m : Nat) (wh : Nat → Nat) (ts : List Int) : List Int := (List.range (m * m)).map fun p => if wh (p / m) < n ∧ wh (p % m) < n then tat ts n (wh (p / m)) (wh (p % m)) else if p / m = p % m then 1 else 9223372036854775807
theorem laidT_length (n m : Nat) (wh : Nat → Nat) (ts : List Int) : (laidT n m wh ts).length = m * m := by simp [laidT]
theorem laidT_get (n m : Nat) (wh : Nat → Nat) (ts : List Int) {p : Nat} (h : p < m * m) : (laidT n m wh ts)[p]?.getD 0 = if wh (p / m) < n ∧ wh (p % m) < n then tat ts n (wh (p / m)) (wh (p % m)) else if p / m = p % m then 1 else 9223372036854775807 := by
  simp [laidT, h]
theorem place_div {m i j : Nat} (hj : j < m) : (i * m + j) / m = i ∧ (i * m + j) % m = j := by
  refine ⟨?_, ?_⟩
  · rw [Nat.mul_comm, Nat.mul_add_div (by omega), Nat.div_eq_of_lt hj]; rfl
  · rw [Nat.mul_comm, Nat.mul_add_mod, Nat.mod_eq_of_lt hj]
theorem laidT_at {n m : Nat} {wh : Nat → Nat} {ts : List Int} (hm : m ≤ 4) {i j : Nat} (hi : i < m) (hj : j < m) : tat (laidT n m wh ts) m i j = if wh i < n ∧ wh j < n then tat ts n (wh i) (wh j) else if i = j then 1 else 9223372036854775807 := by
  unfold tat
  rw [laidT_get _ _ _ _ (place_le hm hi hj), (place_div hj).1, (place_div hj).2]
  rfl
theorem laidT_in {n m : Nat} {wh : Nat → Nat} {ts : List Int} (hm : m ≤ 4) {i j : Nat} (hi : i < m) (hj : j < m) (h1 : wh i < n) (h2 : wh j < n) : tat (laidT n m wh ts) m i j = tat ts n (wh i) (wh j) := by
  rw [laidT_at hm hi hj, if_pos ⟨h1, h2⟩]
theorem laidT_all {n m : Nat} {wh : Nat → Nat} {ts : List Int} {P : Int → Prop} (hl : ts.length = n * n) (hn : n ≤ 4) (h : ∀ p, p < ts.length → P (ts[p]?.getD 0)) (h1 : P 1) (h2 : P 9223372036854775807) : ∀ p, p < (laidT n m wh ts).length → P ((laidT n m wh ts)[p]?.getD 0) := by
  intro p hp
  rw [laidT_length] at hp
  rw [laidT_get _ _ _ _ hp]
  split
  · rename_i hh
    exact h _ (by rw [hl]; exact place_le hn hh.1 hh.2)
  · split
    · exact h1
    · exact h2
theorem laidT_tops {n m : Nat} {wh : Nat → Nat} {ts : List Int} (hl : ts.length = n * n) (hn : n ≤ 4) (htop : Tops ts) : Tops (laidT n m wh ts) :=
  tops_at (laidT_all (P := fun x => x ≤ 9223372036854775807) hl hn (fun p hp => at_top htop hp) (by decide) (by decide))
theorem laidT_may {n m : Nat} {wh : Nat → Nat} {ts : List Int} (h : MayD n ts) (h0 : 0 < m) (hm : m ≤ 4) : MayD m (laidT n m wh ts) := by
  obtain ⟨n', e, _, hn, hl⟩ := may_nat h
  obtain rfl : n = n' := Int.ofNat.inj e
  refine ⟨by omega, by omega, by rw [laidT_length, Int.natCast_mul], laidT_all hl hn h.2.2.2 (.inr (by omega)) (.inl rfl)⟩
/-- a matrix which is closed already, and not empty. -/
theorem own_closed {m : Nat} {us : List Int} (h0 : 0 < m) (hm : m ≤ 4) (hl : us.length = m * m) (htop : Tops us) (h : MayD m us) (hd : ∀ i, i < m → tat us m i i = 1) (ht : ∀ i j l, i < m → j < m → l < m → way.le (cod (tat us m i j)) (ad (cod (tat us m i l)) (cod (tat us m l j)))) : OkD m us ∧ clT m us = us := by
  have hb : ∀ i j, i < m → j < m → beg m us i j = cod (tat us m i j) := fun i j hi hj => by
    unfold beg
    rw [wts_in hi hj, beg_at hl hm hi hj]
    by_cases e : i = j
    · subst e; rw [if_pos rfl, hd i hi]; rfl
    · rw [if_neg e]
  have hT : Tri (beg m us) m := fun l hl' i j => by
    by_cases hi : i < m
    · by_cases hj : j < m
      · rw [hb i j hi hj, hb i l hi hl', hb l j hl' hj]; exact ht i j l hi hj hl'
      · rw [show beg m us l j = none from wts_out2 hj, ad_none]; exact le_none _
    · rw [show beg m us i l = none from wts_out hi, none_ad]; exact le_none _
  have hF : ∀ k, k ≤ m → ∀ i j, F (beg m us) k i j = beg m us i j := F_id hT
  have hg : way.Good (beg m us) m := fun k hk i => by
    rw [hF k hk]
    by_cases hi : i < m
    · rw [hb i i hi hi, hd i hi]; exact le_refl _
    · rw [show beg m us i i = none from wts_out hi]; exact le_none _
  have hok : OkD m us := (okD_good h0 hm hl htop h).2 hg
  refine ⟨hok, ?_⟩
  rw [clT_nat h0]
  refine list_ext h0 ((tabs_length _ _ _ _).trans hl) hl fun i j hi hj => cod_inj ?_
  rw [tabs_is h0 hm hl htop h.2.2.2 m (Nat.le_refl _) (fun k hk => hok.2.2 k (by simp; omega)) i j hi hj, hF m (Nat.le_refl _), hb i j hi hj]

/-! a clock less -/
/-- the clock that moves up to a place. -/
def sk (k i : Nat) : Nat := if i < k then i else i + 1
theorem sk_lt {k i n : Nat} (h : i < n - 1) : sk k i < n := by unfold sk; split <;> omega
/-- the closed one without a clock. -/
def dropT (n k : Nat) (ts : List Int) : List Int := laidT n (n - 1) (sk k) (clT n ts)
theorem dropT_length (n k : Nat) (ts : List Int) : (dropT n k ts).length = (n - 1) * (n - 1) := laidT_length _ _ _ _
section
variable {n k : Nat} {ts : List Int} (h0 : 0 < n) (hn : n ≤ 4) (hl : ts.length = n * n) (htop : Tops ts) (h : OkD n ts)
include h0 hn hl htop h
theorem dropT_at {i j : Nat} (hi : i < n - 1) (hj : j < n - 1) : tat (dropT n k ts) (n - 1) i j = tat (clT n ts) n (sk k i) (sk k j) := laidT_in (by omega) hi hj (sk_lt hi) (sk_lt hj)
theorem cl_cod {i j : Nat} (hi : i < n) (hj : j < n) : cod (tat (clT n ts) n i j) = F (beg n ts) n i j := by
  rw [clT_nat h0]
  exact tabs_is h0 hn hl htop h.1.2.2.2 n (Nat.le_refl _) (fun m hm => h.2.2 m (by simp; omega)) i j hi hj
theorem dropT_tops : Tops (dropT n k ts) := laidT_tops ((clT_length h).trans hl) hn (clT_tops htop)
/-- it is closed. -/
theorem dropT_own (h2 : 2 ≤ n) (hm : MayD ((n - 1 : Nat) : Int) (dropT n k ts)) : OkD ((n - 1 : Nat) : Int) (dropT n k ts) ∧ clT ((n - 1 : Nat) : Int) (dropT n k ts) = dropT n k ts := by
  refine own_closed (by omega) (by omega) (laidT_length _ _ _ _) (dropT_tops h0 hn hl htop h) hm (fun i hi => ?_) (fun i j l hi hj hl' => ?_)
  · rw [dropT_at h0 hn hl htop h hi hi, clT_nat h0]
    exact closed_diag h0 hn hl htop h.1.2.2.2 (fun m hm => h.2.2 m (by simpa using hm)) (sk_lt hi)
  · rw [dropT_at h0 hn hl htop h hi hj, dropT_at h0 hn hl htop h hi hl', dropT_at h0 hn hl htop h hl' hj, cl_cod h0 hn hl htop h (sk_lt hi) (sk_lt hj), cl_cod h0 hn hl htop h (sk_lt hi) (sk_lt hl'), cl_cod h0 hn hl htop h (sk_lt hl') (sk_lt hj)]
    exact good_tri ((okD_good h0 hn hl htop h.1).1 h) _ (sk_lt hl') _ _
end
theorem kB_like {q q' : Nat → Int × Int} {i j i' j' : Nat} {x : B} (h1 : q i = q' i') (h2 : q j = q' j') (h : kB q' i' j' x) : kB q i j x := by
  cases x with
  | none => trivial
  | some a => unfold kB; rw [h1, h2]; exact h
/-- times that keep a matrix keep it without a clock, without that one's. -/
theorem drop_kept {n k : Nat} {ts : List Int} (h0 : 0 < n) (hn : n ≤ 4) (hl : ts.length = n * n) (htop : Tops ts) (h : OkD n ts) (hm : MayD ((n - 1 : Nat) : Int) (dropT n k ts)) {qs ps : List (Int × Int)} (hq : MayT qs) (hqn : qs.length = n) (hp : MayT ps) (hpn : ps.length = n - 1) (hs : ∀ i, i < n - 1 → pr ps i = pr qs (sk k i)) (hk : keptAll n ts qs) : keptAll (n - 1) (dropT n k ts) ps := fun i j hi hj => by
  have hf : Fine (tat (dropT n k ts) (n - 1) i j) := hm.2.2.2 _ (by rw [show (dropT n k ts).length = (n - 1) * (n - 1) from laidT_length _ _ _ _]; exact place_le (by omega) hi hj)
  rw [kp_iff hp hpn hi hj hf, dropT_at h0 hn hl htop h hi hj, cl_cod h0 hn hl htop h (sk_lt hi) (sk_lt hj)]
  have e : ∀ i, i < n - 1 → tms (n - 1) ps i = tms n qs (sk k i) := fun i hi => by
    unfold tms
    rw [if_pos hi, if_pos (sk_lt hi), hs i hi]
  exact kB_like (e i hi) (e j hj) (kB_F (tms_pos hq hqn) (kept_beg hn hl htop h.1.2.2.2 hq hqn hk) n (sk k i) (sk k j))

/-! a clock more -/
def growT (n : Nat) (ts : List Int) : List Int := laidT n (n + 1) (fun i => i) ts
theorem growT_length (n : Nat) (ts : List Int) : (growT n ts).length = (n + 1) * (n + 1) := laidT_length _ _ _ _
theorem beg_grow {n : Nat} {ts : List Int} (hn : n < 4) (hl : ts.length = n * n) : beg (n + 1) (growT n ts) = more (beg n ts) n := by
  funext i j
  have hlg : (growT n ts).length = (n + 1) * (n + 1) := laidT_length _ _ _ _
  have at_ : ∀ i j, i < n + 1 → j < n + 1 → tat (growT n ts) (n + 1) i j = if i < n ∧ j < n then tat ts n i j else if i = j then 1 else 9223372036854775807 := fun i j hi hj => laidT_at (by omega) hi hj
  unfold more
  by_cases hij : i < n ∧ j < n
  · obtain ⟨hi, hj⟩ := hij
    rw [if_neg (fun k => by omega)]
    unfold beg
    rw [wts_in (by omega) (by omega), wts_in hi hj, beg_at hlg (by omega) (by omega) (by omega), beg_at hl (by omega) hi hj, at_ i i (by omega) (by omega), at_ i j (by omega) (by omega), if_pos (show i < n ∧ i < n from ⟨hi, hi⟩), if_pos (show i < n ∧ j < n from ⟨hi, hj⟩)]
  · have hno : beg n ts i j = none := if_neg hij
    rw [hno]
    by_cases hij' : i < n + 1 ∧ j < n + 1
    · obtain ⟨hi, hj⟩ := hij'
      unfold beg
      rw [wts_in hi hj, beg_at hlg (by omega) hi hj, at_ i i hi hi, at_ i j hi hj]
      by_cases e : i = j
      · subst e
        rw [if_pos rfl, if_neg (fun k => hij k), if_pos rfl, if_pos (by omega)]
        rfl
      · rw [if_neg e, if_neg hij, if_neg e, if_neg (fun k => e (by omega))]
        rfl
    · rw [show beg (n + 1) (growT n ts) i j = none from if_neg hij', if_neg (fun k => by omega)]
theorem beg_far {n : Nat} (ts : List Int) : (∀ i, ¬ i < n → ∀ j, beg n ts i j = none) ∧ ∀ j, ¬ j < n → ∀ i, beg n ts i j = none := ⟨fun i hi j => wts_out hi, fun j hj i => wts_out2 hj⟩
section
variable {n : Nat} {ts : List Int} (h0 : 0 < n) (hn : n < 4) (hl : ts.length = n * n) (htop : Tops ts) (h : MayD n ts)
include h0 hn hl htop h
theorem grow_may : MayD ((n + 1 : Nat) : Int) (growT n ts) := laidT_may h (by omega) (by omega)
theorem grow_tops : Tops (growT n ts) := laidT_tops hl (by omega) htop
theorem grow_ok : OkD ((n + 1 : Nat) : Int) (growT n ts) ↔ OkD n ts := by
  rw [okD_good (by omega) (by omega) (growT_length n ts) (grow_tops h0 hn hl htop h) (grow_may h0 hn hl htop h), okD_good h0 (by omega) hl htop h, beg_grow hn hl]
  exact good_more (beg_far ts).1 (beg_far ts).2
/-- a clock that came, and goes, leaves the closed one. -/
theorem grow_drop (hok : OkD n ts) : dropT (n + 1) n (growT n ts) = clT n ts := by
  have hg := (grow_ok h0 hn hl htop h).2 hok
  refine list_ext h0 (laidT_length _ _ _ _) ((clT_length hok).trans hl) fun i j hi hj => cod_inj ?_
  rw [show tat (dropT (n + 1) n (growT n ts)) n i j = _ from dropT_at (n := n + 1) (by omega) (by omega) (growT_length n ts) (grow_tops h0 hn hl htop h) hg hi hj]
  have e : ∀ i, i < n → sk n i = i := fun i hi => if_pos hi
  rw [e i hi, e j hj, cl_cod (n := n + 1) (by omega) (by omega) (growT_length n ts) (grow_tops h0 hn hl htop h) hg (by omega) (by omega), cl_cod h0 (by omega) hl htop hok hi hj, beg_grow hn hl, F_more_all (beg_far ts).1 (beg_far ts).2]
  exact if_neg (fun k => by omega)
omit hl htop h in
/-- times keep it, whatever the last one's is, just if the others keep the one. -/
theorem grow_kept {qs ps : List (Int × Int)} (hq : MayT qs) (hqn : qs.length = n) (hp : MayT ps) (hpn : ps.length = n + 1) (hs : ∀ i, i < n → pr ps i = pr qs i) : keptAll (n + 1) (growT n ts) ps ↔ keptAll n ts qs := by
  have at_ : ∀ i j, i < n + 1 → j < n + 1 → tat (growT n ts) (n + 1) i j = if i < n ∧ j < n then tat ts n i j else if i = j then 1 else 9223372036854775807 := fun i j hi hj => laidT_at (by omega) hi hj
  refine ⟨fun k i j hi hj => ?_, fun k i j hi hj => ?_⟩
  · have := k i j (by omega) (by omega)
    unfold kp at this ⊢
    rwa [at_ i j (by omega) (by omega), if_pos ⟨hi, hj⟩, hs i hi, hs j hj] at this
  · by_cases hij : i < n ∧ j < n
    · have := k i j hij.1 hij.2
      unfold kp at this ⊢
      rwa [at_ i j hi hj, if_pos hij, hs i hij.1, hs j hij.2]
    · rw [kp_iff hp hpn hi hj (by rw [at_ i j hi hj, if_neg hij]; split; exact .inr (by omega); exact .inl rfl), at_ i j hi hj, if_neg hij]
      by_cases e : i = j
      · subst e
        rw [if_pos rfl]
        exact kB_one i
      · rw [if_neg e]
        exact True.intro
end

/-! another order -/
def moveT (n : Nat) (o : Nat → Nat) (ts : List Int) : List Int := laidT n n o ts
theorem move_kept {n : Nat} {o p : Nat → Nat} {ts : List Int} (hn : n ≤ 4) (ho : ∀ i, i < n → o i < n) (hp : ∀ i, i < n → p i < n ∧ o (p i) = i) {qs ps : List (Int × Int)} (hs : ∀ i, i < n → pr ps i = pr qs (o i)) : keptAll n (moveT n o ts) ps ↔ keptAll n ts qs := by
  refine ⟨fun k i j hi hj => ?_, fun k i j hi hj => ?_⟩
  · have := k (p i) (p j) (hp i hi).1 (hp j hj).1
    unfold kp at this ⊢
    rwa [show tat (moveT n o ts) n (p i) (p j) = _ from laidT_in hn (hp i hi).1 (hp j hj).1 (ho _ (hp i hi).1) (ho _ (hp j hj).1), hs _ (hp i hi).1, hs _ (hp j hj).1, (hp i hi).2, (hp j hj).2] at this
  · have := k (o i) (o j) (ho i hi) (ho j hj)
    unfold kp at this ⊢
    rwa [show tat (moveT n o ts) n i j = _ from laidT_in hn hi hj (ho i hi) (ho j hj), hs i hi, hs j hj]
theorem move_back {n : Nat} {o p : Nat → Nat} {ts : List Int} (h0 : 0 < n) (hn : n ≤ 4) (hl : ts.length = n * n) (ho : ∀ i, i < n → o i < n) (hp : ∀ i, i < n → p i < n ∧ o (p i) = i) : moveT n p (moveT n o ts) = ts :=
  list_ext h0 (laidT_length _ _ _ _) hl fun i j hi hj => by
    rw [show tat (moveT n p (moveT n o ts)) n i j = _ from laidT_in hn hi hj (hp i hi).1 (hp j hj).1, show tat (moveT n o ts) n (p i) (p j) = _ from laidT_in hn (hp i hi).1 (hp j hj).1 (by rw [(hp i hi).2]; exact hi) (by rw [(hp j hj).2]; exact hj), (hp i hi).2, (hp j hj).2]

/-! two clocks less -/
theorem sk_sk {j k i : Nat} (hjk : j < k) : sk j (sk (k - 1) i) = sk k (sk j i) := by
  unfold sk
  repeat' split
  all_goals omega
theorem drop_two {n j k : Nat} {ts : List Int} (hn : n ≤ 4) (h3 : 3 ≤ n) (hjk : j < k) (hl : ts.length = n * n) (htop : Tops ts) (h : OkD n ts) (ha : MayD ((n - 1 : Nat) : Int) (dropT n j ts)) (hb : MayD ((n - 1 : Nat) : Int) (dropT n k ts)) :
    dropT (n - 1) (k - 1) (dropT n j ts) = dropT (n - 1) j (dropT n k ts) := by
  have h0 : 0 < n := by omega
  have oa := dropT_own h0 hn hl htop h (by omega) ha
  have ob := dropT_own h0 hn hl htop h (by omega) hb
  refine list_ext (n := n - 1 - 1) (by omega) (laidT_length _ _ _ _) (laidT_length _ _ _ _) fun x y hx hy => ?_
  rw [dropT_at (n := n - 1) (by omega) (by omega) (dropT_length _ _ _) (dropT_tops h0 hn hl htop h) oa.1 hx hy, dropT_at (n := n - 1) (by omega) (by omega) (dropT_length _ _ _) (dropT_tops h0 hn hl htop h) ob.1 hx hy, oa.2, ob.2,
    dropT_at h0 hn hl htop h (sk_lt hx) (sk_lt hy), dropT_at h0 hn hl htop h (sk_lt hx) (sk_lt hy), sk_sk hjk, sk_sk hjk]

/-! what picks up a time for the clock that went -/
/-- where each clock went. -/
def upT (n k i : Nat) : Nat := if i = k then n - 1 else if k < i then i - 1 else i
theorem upT_lt {n k i : Nat} (hk : k < n) (hi : i < n) : upT n k i < n := by
  unfold upT
  repeat' split
  all_goals omega
theorem sk_up {n k i : Nat} (h : i ≠ k) : sk k (upT n k i) = i := by
  unfold sk upT
  rw [if_neg h]
  repeat' split
  all_goals omega
/-- the clock that went, in its place again, and nothing said of it. -/
def freeT (n k : Nat) (ts : List Int) : List Int := moveT n (upT n k) (growT (n - 1) (dropT n k ts))
theorem free_at {n k : Nat} {ts : List Int} (hn : n ≤ 4) (h2 : 2 ≤ n) (hk : k < n) (hl : ts.length = n * n) (htop : Tops ts) (h : OkD n ts) {i j : Nat} (hi : i < n) (hj : j < n) : tat (freeT n k ts) n i j = if i ≠ k ∧ j ≠ k then tat (clT n ts) n i j else if i = j then 1 else 9223372036854775807 := by
  have h0 : 0 < n := by omega
  rw [show tat (freeT n k ts) n i j = _ from laidT_in hn hi hj (upT_lt hk hi) (upT_lt hk hj)]
  have e : tat (growT (n - 1) (dropT n k ts)) n (upT n k i) (upT n k j) = if upT n k i < n - 1 ∧ upT n k j < n - 1 then tat (dropT n k ts) (n - 1) (upT n k i) (upT n k j) else if upT n k i = upT n k j then 1 else 9223372036854775807 := by
    have e := laidT_at (n := n - 1) (m := n - 1 + 1) (wh := fun i => i) (ts := dropT n k ts) (by omega) (i := upT n k i) (j := upT n k j) (by have := upT_lt hk hi; omega) (by have := upT_lt hk hj; omega)
    unfold growT
    rwa [show tat (laidT (n - 1) (n - 1 + 1) (fun i => i) (dropT n k ts)) (n - 1 + 1) (upT n k i) (upT n k j) = tat (laidT (n - 1) (n - 1 + 1) (fun i => i) (dropT n k ts)) n (upT n k i) (upT n k j) by unfold tat; rw [show n - 1 + 1 = n by omega]] at e
  rw [e]
  have lt : ∀ i, i < n → i ≠ k → upT n k i < n - 1 := fun i hi h => by unfold upT; rw [if_neg h]; split <;> omega
  have ge : upT n k k = n - 1 := if_pos rfl
  by_cases hij : i ≠ k ∧ j ≠ k
  · rw [if_pos hij, if_pos ⟨lt i hi hij.1, lt j hj hij.2⟩, dropT_at h0 hn hl htop h (lt i hi hij.1) (lt j hj hij.2), sk_up hij.1, sk_up hij.2]
  · rw [if_neg hij]
    have : ¬ (upT n k i < n - 1 ∧ upT n k j < n - 1) := fun hh => hij ⟨fun e => by rw [e, ge] at hh; omega, fun e => by rw [e, ge] at hh; omega⟩
    rw [if_neg this]
    by_cases e : i = j
    · subst e; rw [if_pos rfl, if_pos rfl]
    · rw [if_neg e]
      refine if_neg fun e' => ?_
      by_cases hik : i = k
      · have := lt j hj (fun e2 => e (hik.trans e2.symm))
        rw [hik, ge] at e'
        omega
      · have hjk : j = k := Classical.byContradiction fun hjk => hij ⟨hik, hjk⟩
        have := lt i hi hik
        rw [hjk, ge] at e'
        omega
end Go.Proofs.YthljhijcmdnonaaDoor.proj

namespace Go.Proofs.YthljhijcmdnonaaDoor.proj
open Go.Joins Go.ChangeShapes Go.WideShapes Go.ChangeAt Go.RowKit num rat dbm Go.Proofs.YthljhijcmdnonaaDoor.tight
open bound hiding up
set_option linter.unusedVariables false
set_option linter.unusedSimpArgs false

/-- laid out as far as a place. -/
def mixT (n m : Nat) (wh : Nat → Nat) (ts : List Int) (p : Nat) : List Int := (List.range (m * m)).map fun q => if q < p ∧ wh (q / m) < n ∧ wh (q % m) < n then tat ts n (wh (q / m)) (wh (q % m)) else if q / m = q % m then 1 else 9223372036854775807
theorem mixT_length (n m : Nat) (wh : Nat → Nat) (ts : List Int) (p : Nat) : (mixT n m wh ts p).length = m * m := by simp [mixT]
theorem mixT_at (n m : Nat) (wh : Nat → Nat) (ts : List Int) (p : Nat) {q : Nat} (h : q < m * m) : (mixT n m wh ts p)[q]?.getD 0 = if q < p ∧ wh (q / m) < n ∧ wh (q % m) < n then tat ts n (wh (q / m)) (wh (q % m)) else if q / m = q % m then 1 else 9223372036854775807 := by
  simp [mixT, h]
theorem mixT_all (n m : Nat) (wh : Nat → Nat) (ts : List Int) : mixT n m wh ts (m * m) = laidT n m wh ts := by
  refine list_at ((mixT_length _ _ _ _ _).trans (laidT_length _ _ _ _).symm) fun q hq => ?_
  rw [mixT_length] at hq
  rw [mixT_at _ _ _ _ _ hq, laidT_get _ _ _ _ hq]
  by_cases h : wh (q / m) < n ∧ wh (q % m) < n
  · rw [if_pos ⟨hq, h⟩, if_pos h]
  · rw [if_neg (fun k => h k.2), if_neg h]
theorem mixT_zero {n m : Nat} (h0 : 0 < m) (hm : m ≤ 4) (wh : Nat → Nat) (ts : List Int) : topT m h0 = mixT n m wh ts 0 := by
  have e : mixT n m wh ts 0 = (List.range (m * m)).map fun q => if q / m = q % m then 1 else 9223372036854775807 := by
    unfold mixT
    refine List.map_congr_left fun q _ => ?_
    rw [if_neg (fun k => by omega)]
  rw [e]
  have : m = 1 ∨ m = 2 ∨ m = 3 ∨ m = 4 := by omega
  have e1 : topT 1 (by decide) = (List.range (1 * 1)).map fun q => if q / 1 = q % 1 then 1 else 9223372036854775807 := by decide +kernel
  have e2 : topT 2 (by decide) = (List.range (2 * 2)).map fun q => if q / 2 = q % 2 then 1 else 9223372036854775807 := by decide +kernel
  have e3 : topT 3 (by decide) = (List.range (3 * 3)).map fun q => if q / 3 = q % 3 then 1 else 9223372036854775807 := by decide +kernel
  have e4 : topT 4 (by decide) = (List.range (4 * 4)).map fun q => if q / 4 = q % 4 then 1 else 9223372036854775807 := by decide +kernel
  rcases this with rfl | rfl | rfl | rfl
  · exact e1
  · exact e2
  · exact e3
  · exact e4
theorem mixT_yes {n m : Nat} {wh : Nat → Nat} {ts : List Int} {p : Nat} (hp : p < m * m) (h1 : wh (p / m) < n) (h2 : wh (p % m) < n) : mixT n m wh ts (p + 1) = (mixT n m wh ts p).set p (tat ts n (wh (p / m)) (wh (p % m))) := by
  refine list_at (by rw [List.length_set, mixT_length, mixT_length]) fun q hq => ?_
  rw [mixT_length] at hq
  rw [List.getElem?_set, mixT_at _ _ _ _ _ hq]
  by_cases e : p = q
  · subst e
    rw [if_pos rfl, if_pos (show p < (mixT n m wh ts p).length by rw [mixT_length]; exact hp), if_pos (show p < p + 1 ∧ wh (p / m) < n ∧ wh (p % m) < n from ⟨by omega, h1, h2⟩)]; rfl
  · have c : (q < p + 1) = (q < p) := propext ⟨fun h => by omega, fun h => by omega⟩
    rw [if_neg e, mixT_at _ _ _ _ _ hq]
    simp only [c]
theorem mixT_no {n m : Nat} {wh : Nat → Nat} {ts : List Int} {p : Nat} (hno : ¬ (wh (p / m) < n ∧ wh (p % m) < n)) : mixT n m wh ts (p + 1) = mixT n m wh ts p := by
  refine list_at (by rw [mixT_length, mixT_length]) fun q hq => ?_
  rw [mixT_length] at hq
  rw [mixT_at _ _ _ _ _ hq, mixT_at _ _ _ _ _ hq]
  by_cases e : q = p
  · subst e
    rw [if_neg (show ¬ (q < q + 1 ∧ wh (q / m) < n ∧ wh (q % m) < n) from fun k => hno k.2), if_neg (show ¬ (q < q ∧ wh (q / m) < n ∧ wh (q % m) < n) from fun k => hno k.2)]
  · have c : (q < p + 1) = (q < p) := propext ⟨fun h => by omega, fun h => by omega⟩
    simp only [c]

/-! the closures -/
/-- what lies there while it is laid out. -/
def LA (n m b off cap g T : Nat) (us : List Int) (w W : World) : Prop :=
  lies.Lies W w.heap.size 58 #[.int .i64 n, .slice (some ⟨b, off, none⟩) (n * n) cap] ∧ lies.Lies W (w.heap.size + 1) 58 #[.int .i64 0, .slice none 0 0] ∧ lies.Lies W T 58 #[.int .i64 m, .slice (some ⟨g, 0, none⟩) (m * m) (m * m)] ∧ lies.Lies W g 29 (cellsOf us) ∧ Below w.heap.size w W
theorem LA.below {n m b off cap g T : Nat} {us : List Int} {w W X : World} (h : LA n m b off cap g T us w W) (k : Below W.heap.size W X) : LA n m b off cap g T us w X := ⟨lies.on_call h.1 k, lies.on_call h.2.1 k, lies.on_call h.2.2.1 k, lies.on_call h.2.2.2.1 k, h.2.2.2.2.trans (k.mono h.2.2.2.2.size)⟩

end Go.Proofs.YthljhijcmdnonaaDoor.proj

namespace Go.Proofs.YthljhijcmdnonaaDoor.proj
open Go.Joins Go.ChangeShapes Go.WideShapes Go.ChangeAt Go.RowKit num rat dbm Go.Proofs.YthljhijcmdnonaaDoor.tight
open bound hiding up
set_option linter.unusedVariables false
set_option linter.unusedSimpArgs false

/-! is a number in a list? -/
/-- is a list an order of so many clocks? -/
def Ord (n : Nat) (os : List Int) : Prop := os.length = n ∧ os[0]?.getD 0 = 0 ∧ ∀ v : Nat, v < n → (v : Int) ∈ os
theorem ints_form {n₀ : Nat} {W : World} {v : Value} {zs : List Int} (h : law.Ints n₀ W v zs) (h0 : 0 < zs.length) : ∃ b off cap, v = .slice (some ⟨b, off, none⟩) zs.length cap ∧ b < n₀ ∧ Row W b off zs := by
  rcases h with ⟨_, rfl⟩ | h
  · simp at h0
  · exact h
/-- what a call that tells something by true or false answers. -/
def TellB (V : Prop) (w : World) (e : Ending) (w' : World) : Prop := ∃ r : Bool, e = .returned (.bool r) ∧ (r = true ↔ V) ∧ Below w.heap.size w w'
/-! what the calls answer -/
/-- a matrix, or none, and a number; the matrix in new memory. -/
def Gv (R : Int → List Int → Int → Prop) (w : World) (e : Ending) (w' : World) : Prop := Below w.heap.size w w' ∧ ∃ (na : Int) (aa : Option Addr) (la ca : Nat) (us : List Int) (f : Int), e = .returned (.tuple #[.agg #[.int .i64 na, .slice aa la ca], .int .i64 f]) ∧ R na us f ∧ Blk w.heap.size w' aa la ca us
def No (err : Int) (na : Int) (us : List Int) (f : Int) : Prop := na = 0 ∧ us = [] ∧ f = err
def Kc (n k : Int) : Prop := 1 ≤ k ∧ k < n
def DropR (n : Int) (ts : List Int) (k : Int) (na : Int) (us : List Int) (f : Int) : Prop := (¬ MayD n ts ∧ No 8 na us f) ∨ (MayD n ts ∧ ¬ Kc n k ∧ No 2 na us f) ∨ (MayD n ts ∧ Kc n k ∧ ¬ OkD n ts ∧ No 6 na us f) ∨ (OkD n ts ∧ Kc n k ∧ na = ((n.toNat - 1 : Nat) : Int) ∧ us = dropT n.toNat k.toNat ts ∧ f = 0)
def GrowR (n : Int) (ts : List Int) (na : Int) (us : List Int) (f : Int) : Prop := (¬ MayD n ts ∧ No 8 na us f) ∨ (MayD n ts ∧ n = 4 ∧ No 9 na us f) ∨ (MayD n ts ∧ n < 4 ∧ na = ((n.toNat + 1 : Nat) : Int) ∧ us = growT n.toNat ts ∧ f = 0)
def ordF (os : List Int) (i : Nat) : Nat := (os[i]?.getD 0).toNat
def MoveR (n : Int) (ts os : List Int) (na : Int) (us : List Int) (f : Int) : Prop := (¬ MayD n ts ∧ No 8 na us f) ∨ (MayD n ts ∧ ¬ Ord n.toNat os ∧ No 2 na us f) ∨ (MayD n ts ∧ Ord n.toNat os ∧ na = n ∧ us = moveT n.toNat (ordF os) ts ∧ f = 0)
theorem Gv.no {R : Int → List Int → Int → Prop} {err : Int} {w w' : World} (h : Below w.heap.size w w') (k : R 0 [] err) : Gv R w (.returned (.tuple #[.agg #[.int .i64 0, .slice none 0 0], .int .i64 err])) w' := ⟨h, 0, none, 0, 0, [], err, rfl, k, .inl ⟨rfl, rfl, rfl, rfl⟩⟩

/-- an order's numbers are clocks, each of them once. -/
theorem erase_len {l : List Int} : ∀ {a : List Int}, a.Nodup → (∀ x ∈ a, x ∈ l) → a.length ≤ l.length := by
  intro a
  induction a generalizing l with
  | nil => intro _ _; exact Nat.zero_le _
  | cons x a ih =>
    intro hn hs
    have hx : x ∈ l := hs x List.mem_cons_self
    have hn' := List.nodup_cons.1 hn
    have := ih (l := l.erase x) hn'.2 (fun y hy => (List.mem_erase_of_ne (fun e => hn'.1 (by rw [← e]; exact hy))).2 (hs y (List.mem_cons_of_mem _ hy)))
    rw [List.length_erase_of_mem hx] at this
    have : 0 < l.length := List.length_pos_of_mem hx
    simp only [List.length_cons]
    omega
theorem ints_nodup (n : Nat) : ((List.range n).map (fun v : Nat => (v : Int))).Nodup := by
  refine List.Pairwise.map _ (fun a b h => ?_) List.nodup_range
  omega
theorem ord_mem {n : Nat} {os : List Int} (h : Ord n os) {i : Nat} (hi : i < n) : 0 ≤ os[i]?.getD 0 ∧ os[i]?.getD 0 < n := by
  have hil : i < os.length := by rw [h.1]; exact hi
  have hmem : os[i]?.getD 0 ∈ os := by rw [List.getElem?_eq_getElem hil]; exact List.getElem_mem _
  generalize os[i]?.getD 0 = x at hmem
  refine Classical.byContradiction fun hno => ?_
  have := erase_len (l := os.erase x) (ints_nodup n) (fun y hy => by
    obtain ⟨v, hv, rfl⟩ := List.mem_map.1 hy
    have hv := List.mem_range.1 hv
    exact (List.mem_erase_of_ne (fun e => by omega)).2 (h.2.2 v hv))
  rw [List.length_erase_of_mem hmem, h.1] at this
  simp at this
  omega
theorem ord_inj {n : Nat} {os : List Int} (h : Ord n os) {i j : Nat} (hi : i < n) (hj : j < n) (e : os[i]?.getD 0 = os[j]?.getD 0) : i = j := by
  refine Classical.byContradiction fun hne => ?_
  have hil : i < os.length := by rw [h.1]; exact hi
  have hjl : j < os.length := by rw [h.1]; exact hj
  have := erase_len (l := os.eraseIdx j) (ints_nodup n) (fun y hy => by
    obtain ⟨v, hv, rfl⟩ := List.mem_map.1 hy
    have hv := List.mem_range.1 hv
    obtain ⟨p, hp, ep⟩ := List.getElem_of_mem (h.2.2 v hv)
    rw [List.mem_eraseIdx_iff_getElem]
    by_cases k : p = j
    · subst k
      refine ⟨i, hil, hne, ?_⟩
      rw [List.getElem?_eq_getElem hil, List.getElem?_eq_getElem hjl] at e
      exact e.trans ep
    · exact ⟨p, hp, k, ep⟩)
  rw [List.length_eraseIdx_of_lt hjl, h.1] at this
  simp at this
  omega
theorem ord_nat {n : Nat} {os : List Int} (h : Ord n os) {i : Nat} (hi : i < n) : ordF os i < n ∧ os[i]?.getD 0 = (ordF os i : Int) := by
  have := ord_mem h hi
  unfold ordF
  omega
theorem Gv.yes {R : Int → List Int → Int → Prop} {q g m : Nat} {us : List Int} {w W : World} {u v : Value} (hB : Below w.heap.size w W) (hq : w.heap.size ≤ q) (hg : q < g) (hG : lies.Lies W g 29 (cellsOf us)) (hl : us.length = m * m) (k : R m us 0) :
    Gv R w (.returned (.tuple #[.agg #[.int .i64 m, .slice (some ⟨g, 0, none⟩) (m * m) (m * m)], .int .i64 0])) ((W.setCell ⟨q, 0, none⟩ u).setCell ⟨q, 1, none⟩ v) :=
  ⟨(hB.setCell (p := ⟨q, 0, none⟩) hq _).setCell (p := ⟨q, 1, none⟩) hq _, m, _, _, _, us, 0, rfl, k, .inr ⟨g, by omega, rfl, hl.symm, lies.on_far (lies.on_far hG (b := q) 0 (by omega) _) (b := q) 1 (by omega) _⟩⟩
theorem Gv.bad {R : Int → List Int → Int → Prop} {q : Nat} {err : Int} {w W : World} {u v : Value} (hB : Below w.heap.size w W) (hq : w.heap.size ≤ q) (k : R 0 [] err) :
    Gv R w (.returned (.tuple #[.agg #[.int .i64 0, .slice none 0 0], .int .i64 err])) ((W.setCell ⟨q, 0, none⟩ u).setCell ⟨q, 1, none⟩ v) := Gv.no ((hB.setCell (p := ⟨q, 0, none⟩) hq _).setCell (p := ⟨q, 1, none⟩) hq _) k
theorem boxP (n : Int) (sv x : Value) (t : TypeId) (w : World) : Below w.heap.size w (((w.alloc (.cells #[.int .i64 n, sv] 58)).alloc (.cells #[x] t)).alloc (.cells #[.int .i64 0, .slice none 0 0] 58)) ∧ lies.Lies (((w.alloc (.cells #[.int .i64 n, sv] 58)).alloc (.cells #[x] t)).alloc (.cells #[.int .i64 0, .slice none 0 0] 58)) w.heap.size 58 #[.int .i64 n, sv] ∧ lies.Lies (((w.alloc (.cells #[.int .i64 n, sv] 58)).alloc (.cells #[x] t)).alloc (.cells #[.int .i64 0, .slice none 0 0] 58)) (w.heap.size + 1) t #[x] ∧ lies.Lies (((w.alloc (.cells #[.int .i64 n, sv] 58)).alloc (.cells #[x] t)).alloc (.cells #[.int .i64 0, .slice none 0 0] 58)) (w.heap.size + 1 + 1) 58 #[.int .i64 0, .slice none 0 0] :=
  ⟨bound.up3 _ _ _ _, lies.on_alloc (lies.on_alloc (lies.made w _ _) _) _, lies.on_alloc (lies.made_at _ _ _ _ (World.size_alloc _ _)) _, lies.made_at _ _ _ _ (by simp)⟩

end Go.Proofs.YthljhijcmdnonaaDoor.proj
