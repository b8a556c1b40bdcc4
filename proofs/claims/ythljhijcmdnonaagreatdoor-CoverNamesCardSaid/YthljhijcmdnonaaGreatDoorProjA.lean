
/-
  A matrix laid out of another one's places: what a clock more, a clock less and another order turn; and Drop, Grow and Move as package proj answers them; each theorem names its conditions.
-/
import Derived.Test.YthljhijcmdnonaaGreatDoorDbmD
import Derived.Test.YthljhijcmdnonaaGreatDoorTightD
namespace Go.Proofs.YthljhijcmdnonaaGreatDoor.way
set_option linter.unusedVariables false
set_option linter.unusedSimpArgs false

theorem F_none {d : Tab} {i : Nat} (h : ∀ j, d i j = none) (k : Nat) : ∀ j, F d k i j = none := by
  induction k with
  | zero => exact h
  | succ k ih =>
    intro j
    show mn (F d k i j) (ad (F d k i k) (F d k k j)) = none
    rw [ih, ih, none_ad]; rfl
theorem F_none2 {d : Tab} {j : Nat} (h : ∀ i, d i j = none) (k : Nat) : ∀ i, F d k i j = none := by
  induction k with
  | zero => exact h
  | succ k ih =>
    intro i
    show mn (F d k i j) (ad (F d k i k) (F d k k j)) = none
    rw [ih, ih, ad_none]; rfl
/-- a clock more, of which nothing is said but that of itself. -/
def more (d : Tab) (n : Nat) : Tab := fun i j => if i = n ∧ j = n then one else d i j
end Go.Proofs.YthljhijcmdnonaaGreatDoor.way

namespace Go.Proofs.YthljhijcmdnonaaGreatDoor.proj
open num rat way dbm Go.Proofs.YthljhijcmdnonaaGreatDoor.tight
open bound hiding up
set_option linter.unusedVariables false
set_option linter.unusedSectionVars false
set_option linter.unusedSimpArgs false

/-- each clock has what the one that is told of it had; nothing is said of a clock that the other one has not. -/
def laidT (n m : Nat) (wh : Nat → Nat) (ts : List Int) : List Int := (List.range (m * m)).map fun p => if wh (p / m) < n ∧ wh (p % m) < n then tat ts n (wh (p / m)) (wh (p % m)) else if p / m = p % m then 1 else 9223372036854775807
theorem laidT_length (n m : Nat) (wh : Nat → Nat) (ts : List Int) : (laidT n m wh ts).length = m * m := by simp [laidT]
theorem laidT_get (n m : Nat) (wh : Nat → Nat) (ts : List Int) {p : Nat} (h : p < m * m) : (laidT n m wh ts)[p]?.getD 0 = if wh (p / m) < n ∧ wh (p % m) < n then tat ts n (wh (p / m)) (wh (p % m)) else if p / m = p % m then 1 else 9223372036854775807 := by
  simp [laidT, h]
theorem place_div {m i j : Nat} (hj : j < m) : (i * m + j) / m = i ∧ (i * m + j) % m = j := by
  refine ⟨?_, ?_⟩
  · rw [Nat.mul_comm, Nat.mul_add_div (by omega), Nat.div_eq_of_lt hj]; rfl
  · rw [Nat.mul_comm, Nat.mul_add_mod, Nat.mod_eq_of_lt hj]
theorem laidT_at {n m : Nat} {wh : Nat → Nat} {ts : List Int} (hm : m ≤ 4) {i j : Nat} (hi : i < m) (hj : j < m) : tat (laidT n m wh ts) m i j = if wh i < n ∧ wh j < n then tat ts n (wh i) (wh j) else if i = j then 1 else 9223372036854775807 := by
  unfold tat
  rw [laidT_get _ _ _ _ (place_le hm hi hj), (place_div hj).1, (place_div hj).2]
  rfl
theorem laidT_in {n m : Nat} {wh : Nat → Nat} {ts : List Int} (hm : m ≤ 4) {i j : Nat} (hi : i < m) (hj : j < m) (h1 : wh i < n) (h2 : wh j < n) : tat (laidT n m wh ts) m i j = tat ts n (wh i) (wh j) := by
  rw [laidT_at hm hi hj, if_pos ⟨h1, h2⟩]
theorem laidT_all {n m : Nat} {wh : Nat → Nat} {ts : List Int} {P : Int → Prop} (hl : ts.length = n * n) (hn : n ≤ 4) (h : ∀ p, p < ts.length → P (ts[p]?.getD 0)) (h1 : P 1) (h2 : P 9223372036854775807) : ∀ p, p < (laidT n m wh ts).length → P ((laidT n m wh ts)[p]?.getD 0) := by
  intro p hp
  rw [laidT_length] at hp
  rw [laidT_get _ _ _ _ hp]
  split
  · rename_i hh
    exact h _ (by rw [hl]; exact place_le hn hh.1 hh.2)
  · split
    · exact h1
    · exact h2
theorem laidT_tops {n m : Nat} {wh : Nat → Nat} {ts : List Int} (hl : ts.length = n * n) (hn : n ≤ 4) (htop : Tops ts) : Tops (laidT n m wh ts) :=
  tops_at (laidT_all (P := fun x => x ≤ 9223372036854775807) hl hn (fun p hp => at_top htop hp) (by decide) (by decide))
/-- a matrix which is closed already, and not empty. -/
theorem own_closed {m : Nat} {us : List Int} (h0 : 0 < m) (hm : m ≤ 4) (hl : us.length = m * m) (htop : Tops us) (h : MayD m us) (hd : ∀ i, i < m → tat us m i i = 1) (ht : ∀ i j l, i < m → j < m → l < m → way.le (cod (tat us m i j)) (ad (cod (tat us m i l)) (cod (tat us m l j)))) : OkD m us ∧ clT m us = us := by
  have hb : ∀ i j, i < m → j < m → beg m us i j = cod (tat us m i j) := fun i j hi hj => by
    unfold beg
    rw [wts_in hi hj, beg_at hl hm hi hj]
    by_cases e : i = j
    · subst e; rw [if_pos rfl, hd i hi]; rfl
    · rw [if_neg e]
  have hT : Tri (beg m us) m := fun l hl' i j => by
    by_cases hi : i < m
    · by_cases hj : j < m
      · rw [hb i j hi hj, hb i l hi hl', hb l j hl' hj]; exact ht i j l hi hj hl'
      · rw [show beg m us l j = none from wts_out2 hj, ad_none]; exact le_none _
    · rw [show beg m us i l = none from wts_out hi, none_ad]; exact le_none _
  have hF : ∀ k, k ≤ m → ∀ i j, F (beg m us) k i j = beg m us i j := F_id hT
  have hg : way.Good (beg m us) m := fun k hk i => by
    rw [hF k hk]
    by_cases hi : i < m
    · rw [hb i i hi hi, hd i hi]; exact le_refl _
    · rw [show beg m us i i = none from wts_out hi]; exact le_none _
  have hok : OkD m us := (okD_good h0 hm hl htop h).2 hg
  refine ⟨hok, ?_⟩
  rw [clT_nat h0]
  refine list_ext h0 ((tabs_length _ _ _ _).trans hl) hl fun i j hi hj => cod_inj ?_
  rw [tabs_is h0 hm hl htop h.2.2.2 m (Nat.le_refl _) (fun k hk => hok.2.2 k (by simp; omega)) i j hi hj, hF m (Nat.le_refl _), hb i j hi hj]

/-! a clock less -/
/-- the clock that moves up to a place. -/
def sk (k i : Nat) : Nat := if i < k then i else i + 1
theorem sk_lt {k i n : Nat} (h : i < n - 1) : sk k i < n := by unfold sk; split <;> omega
/-- the closed one without a clock. -/
def dropT (n k : Nat) (ts : List Int) : List Int := laidT n (n - 1) (sk k) (clT n ts)
theorem dropT_length (n k : Nat) (ts : List Int) : (dropT n k ts).length = (n - 1) * (n - 1) := laidT_length _ _ _ _
section
variable {n k : Nat} {ts : List Int} (h0 : 0 < n) (hn : n ≤ 4) (hl : ts.length = n * n) (htop : Tops ts) (h : OkD n ts)
include h0 hn hl htop h
theorem dropT_at {i j : Nat} (hi : i < n - 1) (hj : j < n - 1) : tat (dropT n k ts) (n - 1) i j = tat (clT n ts) n (sk k i) (sk k j) := laidT_in (by omega) hi hj (sk_lt hi) (sk_lt hj)
theorem cl_cod {i j : Nat} (hi : i < n) (hj : j < n) : cod (tat (clT n ts) n i j) = F (beg n ts) n i j := by
  rw [clT_nat h0]
  exact tabs_is h0 hn hl htop h.1.2.2.2 n (Nat.le_refl _) (fun m hm => h.2.2 m (by simp; omega)) i j hi hj
theorem dropT_tops : Tops (dropT n k ts) := laidT_tops ((clT_length h).trans hl) hn (clT_tops htop)
/-- it is closed. -/
theorem dropT_own (h2 : 2 ≤ n) (hm : MayD ((n - 1 : Nat) : Int) (dropT n k ts)) : OkD ((n - 1 : Nat) : Int) (dropT n k ts) ∧ clT ((n - 1 : Nat) : Int) (dropT n k ts) = dropT n k ts := by
  refine own_closed (by omega) (by omega) (laidT_length _ _ _ _) (dropT_tops h0 hn hl htop h) hm (fun i hi => ?_) (fun i j l hi hj hl' => ?_)
  · rw [dropT_at h0 hn hl htop h hi hi, clT_nat h0]
    exact closed_diag h0 hn hl htop h.1.2.2.2 (fun m hm => h.2.2 m (by simpa using hm)) (sk_lt hi)
  · rw [dropT_at h0 hn hl htop h hi hj, dropT_at h0 hn hl htop h hi hl', dropT_at h0 hn hl htop h hl' hj, cl_cod h0 hn hl htop h (sk_lt hi) (sk_lt hj), cl_cod h0 hn hl htop h (sk_lt hi) (sk_lt hl'), cl_cod h0 hn hl htop h (sk_lt hl') (sk_lt hj)]
    exact good_tri ((okD_good h0 hn hl htop h.1).1 h) _ (sk_lt hl') _ _
end
theorem kB_like {q q' : Nat → Int × Int} {i j i' j' : Nat} {x : B} (h1 : q i = q' i') (h2 : q j = q' j') (h : kB q' i' j' x) : kB q i j x := by
  cases x with
  | none => trivial
  | some a => unfold kB; rw [h1, h2]; exact h
/-- times that keep a matrix keep it without a clock, without that one's. -/
theorem drop_kept {n k : Nat} {ts : List Int} (h0 : 0 < n) (hn : n ≤ 4) (hl : ts.length = n * n) (htop : Tops ts) (h : OkD n ts) (hm : MayD ((n - 1 : Nat) : Int) (dropT n k ts)) {qs ps : List (Int × Int)} (hq : MayT qs) (hqn : qs.length = n) (hp : MayT ps) (hpn : ps.length = n - 1) (hs : ∀ i, i < n - 1 → pr ps i = pr qs (sk k i)) (hk : keptAll n ts qs) : keptAll (n - 1) (dropT n k ts) ps := fun i j hi hj => by
  have hf : Fine (tat (dropT n k ts) (n - 1) i j) := hm.2.2.2 _ (by rw [show (dropT n k ts).length = (n - 1) * (n - 1) from laidT_length _ _ _ _]; exact place_le (by omega) hi hj)
  rw [kp_iff hp hpn hi hj hf, dropT_at h0 hn hl htop h hi hj, cl_cod h0 hn hl htop h (sk_lt hi) (sk_lt hj)]
  have e : ∀ i, i < n - 1 → tms (n - 1) ps i = tms n qs (sk k i) := fun i hi => by
    unfold tms
    rw [if_pos hi, if_pos (sk_lt hi), hs i hi]
  exact kB_like (e i hi) (e j hj) (kB_F (tms_pos hq hqn) (kept_beg hn hl htop h.1.2.2.2 hq hqn hk) n (sk k i) (sk k j))

/-! a clock more -/
def growT (n : Nat) (ts : List Int) : List Int := laidT n (n + 1) (fun i => i) ts
section
variable {n : Nat} {ts : List Int} (h0 : 0 < n) (hn : n < 4) (hl : ts.length = n * n) (htop : Tops ts) (h : MayD n ts)
include h0 hn hl htop h
omit hl htop h in
end

/-! another order -/
def moveT (n : Nat) (o : Nat → Nat) (ts : List Int) : List Int := laidT n n o ts
/-! two clocks less -/
/-! what picks up a time for the clock that went -/
/-- where each clock went. -/
def upT (n k i : Nat) : Nat := if i = k then n - 1 else if k < i then i - 1 else i
/-- the clock that went, in its place again, and nothing said of it. -/
def freeT (n k : Nat) (ts : List Int) : List Int := moveT n (upT n k) (growT (n - 1) (dropT n k ts))
end Go.Proofs.YthljhijcmdnonaaGreatDoor.proj

namespace Go.Proofs.YthljhijcmdnonaaGreatDoor.proj
open Go.Joins Go.ChangeShapes Go.WideShapes Go.ChangeAt Go.RowKit num rat dbm Go.Proofs.YthljhijcmdnonaaGreatDoor.tight
open bound hiding up
set_option linter.unusedVariables false
set_option linter.unusedSimpArgs false

/-- laid out as far as a place. -/
def mixT (n m : Nat) (wh : Nat → Nat) (ts : List Int) (p : Nat) : List Int := (List.range (m * m)).map fun q => if q < p ∧ wh (q / m) < n ∧ wh (q % m) < n then tat ts n (wh (q / m)) (wh (q % m)) else if q / m = q % m then 1 else 9223372036854775807
/-! the closures -/
/-- what lies there while it is laid out. -/
def LA (n m b off cap g T : Nat) (us : List Int) (w W : World) : Prop :=
  lies.Lies W w.heap.size 76 #[.int .i64 n, .slice (some ⟨b, off, none⟩) (n * n) cap] ∧ lies.Lies W (w.heap.size + 1) 76 #[.int .i64 0, .slice none 0 0] ∧ lies.Lies W T 76 #[.int .i64 m, .slice (some ⟨g, 0, none⟩) (m * m) (m * m)] ∧ lies.Lies W g 22 (cellsOf us) ∧ Below w.heap.size w W
theorem LA.below {n m b off cap g T : Nat} {us : List Int} {w W X : World} (h : LA n m b off cap g T us w W) (k : Below W.heap.size W X) : LA n m b off cap g T us w X := ⟨lies.on_call h.1 k, lies.on_call h.2.1 k, lies.on_call h.2.2.1 k, lies.on_call h.2.2.2.1 k, h.2.2.2.2.trans (k.mono h.2.2.2.2.size)⟩

end Go.Proofs.YthljhijcmdnonaaGreatDoor.proj

namespace Go.Proofs.YthljhijcmdnonaaGreatDoor.proj
open Go.Joins Go.ChangeShapes Go.WideShapes Go.ChangeAt Go.RowKit num rat dbm Go.Proofs.YthljhijcmdnonaaGreatDoor.tight
open bound hiding up
set_option linter.unusedVariables false
set_option linter.unusedSimpArgs false

/-! is a number in a list? -/
/-- is a list an order of so many clocks? -/
def Ord (n : Nat) (os : List Int) : Prop := os.length = n ∧ os[0]?.getD 0 = 0 ∧ ∀ v : Nat, v < n → (v : Int) ∈ os
/-- what a call that tells something by true or false answers. -/
def TellB (V : Prop) (w : World) (e : Ending) (w' : World) : Prop := ∃ r : Bool, e = .returned (.bool r) ∧ (r = true ↔ V) ∧ Below w.heap.size w w'
/-! what the calls answer -/
/-- a matrix, or none, and a number; the matrix in new memory. -/
def Gv (R : Int → List Int → Int → Prop) (w : World) (e : Ending) (w' : World) : Prop := Below w.heap.size w w' ∧ ∃ (na : Int) (aa : Option Addr) (la ca : Nat) (us : List Int) (f : Int), e = .returned (.tuple #[.agg #[.int .i64 na, .slice aa la ca], .int .i64 f]) ∧ R na us f ∧ Blk w.heap.size w' aa la ca us
def No (err : Int) (na : Int) (us : List Int) (f : Int) : Prop := na = 0 ∧ us = [] ∧ f = err
def Kc (n k : Int) : Prop := 1 ≤ k ∧ k < n
def DropR (n : Int) (ts : List Int) (k : Int) (na : Int) (us : List Int) (f : Int) : Prop := (¬ MayD n ts ∧ No 8 na us f) ∨ (MayD n ts ∧ ¬ Kc n k ∧ No 2 na us f) ∨ (MayD n ts ∧ Kc n k ∧ ¬ OkD n ts ∧ No 6 na us f) ∨ (OkD n ts ∧ Kc n k ∧ na = ((n.toNat - 1 : Nat) : Int) ∧ us = dropT n.toNat k.toNat ts ∧ f = 0)
def GrowR (n : Int) (ts : List Int) (na : Int) (us : List Int) (f : Int) : Prop := (¬ MayD n ts ∧ No 8 na us f) ∨ (MayD n ts ∧ n = 4 ∧ No 9 na us f) ∨ (MayD n ts ∧ n < 4 ∧ na = ((n.toNat + 1 : Nat) : Int) ∧ us = growT n.toNat ts ∧ f = 0)
def ordF (os : List Int) (i : Nat) : Nat := (os[i]?.getD 0).toNat
def MoveR (n : Int) (ts os : List Int) (na : Int) (us : List Int) (f : Int) : Prop := (¬ MayD n ts ∧ No 8 na us f) ∨ (MayD n ts ∧ ¬ Ord n.toNat os ∧ No 2 na us f) ∨ (MayD n ts ∧ Ord n.toNat os ∧ na = n ∧ us = moveT n.toNat (ordF os) ts ∧ f = 0)
theorem Gv.no {R : Int → List Int → Int → Prop} {err : Int} {w w' : World} (h : Below w.heap.size w w') (k : R 0 [] err) : Gv R w (.returned (.tuple #[.agg #[.int .i64 0, .slice none 0 0], .int .i64 err])) w' := ⟨h, 0, none, 0, 0, [], err, rfl, k, .inl ⟨rfl, rfl, rfl, rfl⟩⟩

end Go.Proofs.YthljhijcmdnonaaGreatDoor.proj
