/-
  In and Apart, what the answers of package incl mean, and what the laws of layer 6 share; each theorem names its conditions.
-/
import Derived.Test.YthljhijcmdnonaaDoorInclA
import Derived.Test.YthljhijcmdnonaaDoorInclB
import Derived.OpenShut
import Derived.Test.YthljhijcmdnonaaDoorTightD
namespace Go.Proofs.YthljhijcmdnonaaDoor.incl
open Go.ChangeShapes Go.WideShapes Go.ChangeAt Go.RowKit num rat dbm way
open bound hiding up
set_option linter.unusedVariables false
set_option linter.unusedSimpArgs false

/-- does the one lie in the other one, of as many clocks? -/
def inV (n : Int) (ts us : List Int) : Prop := OkD n ts → ∀ p, p < ts.length → (clT n ts)[p]?.getD 0 ≤ us[p]?.getD 0
/-- have two nothing in common? -/
def apV (n : Int) (ts us : List Int) : Prop := ¬ OkD n (lesT ts us)
/-- a call that answers so, or not. -/
def Tell (V : Prop) (w : World) (e : Ending) (w' : World) : Prop := Below w.heap.size w w' ∧ ∃ r : Bool, e = .returned (.bool r) ∧ (r = true ↔ V)
/-- what In and Apart answer: whether V, of two that may be. -/
def Asks (n m : Int) (ts us : List Int) (V : Prop) (w : World) (e : Ending) (w' : World) : Prop := Below w.heap.size w w' ∧ ∃ (r : Bool) (f : Int), e = .returned (.tuple #[.bool r, .int .i64 f]) ∧
  ((¬ (MayD n ts ∧ MayD m us) ∧ r = false ∧ f = 8) ∨ (MayD n ts ∧ MayD m us ∧ n ≠ m ∧ r = false ∧ f = 40) ∨ (MayD n ts ∧ MayD m us ∧ n = m ∧ (r = true ↔ V) ∧ f = 0))
end Go.Proofs.YthljhijcmdnonaaDoor.incl

namespace Go.Proofs.YthljhijcmdnonaaDoor.ilaw
open Go.Joins Go.ChangeShapes Go.WideShapes Go.ChangeAt Go.RowKit num dbm way Go.Proofs.YthljhijcmdnonaaDoor.incl Go.Proofs.YthljhijcmdnonaaDoor.tlaw
open bound hiding up
set_option linter.unusedVariables false
set_option linter.unusedSimpArgs false

/-! answers of which all is told -/
theorem asks_yes {n : Int} {ts us : List Int} {V : Prop} {w w' : World} {e : Ending} (h : Asks n n ts us V w e w') (h1 : MayD n ts) (h2 : MayD n us) (hv : V) : e = .returned (.tuple #[.bool true, .int .i64 0]) ∧ Below w.heap.size w w' := by
  obtain ⟨hB, r, f, rfl, ⟨k, _⟩ | ⟨_, _, k, _⟩ | ⟨_, _, _, hr, rfl⟩⟩ := h
  · exact (k ⟨h1, h2⟩).elim
  · exact (k rfl).elim
  · rw [hr.2 hv]; exact ⟨rfl, hB⟩
theorem asks_no {n : Int} {ts us : List Int} {V : Prop} {w w' : World} {e : Ending} (h : Asks n n ts us V w e w') (h1 : MayD n ts) (h2 : MayD n us) (hv : ¬ V) : e = .returned (.tuple #[.bool false, .int .i64 0]) ∧ Below w.heap.size w w' := by
  obtain ⟨hB, r, f, rfl, ⟨k, _⟩ | ⟨_, _, k, _⟩ | ⟨_, _, _, hr, rfl⟩⟩ := h
  · exact (k ⟨h1, h2⟩).elim
  · exact (k rfl).elim
  · cases r with
    | false => exact ⟨rfl, hB⟩
    | true => exact (hv (hr.1 rfl)).elim
theorem asks_dim {n m : Int} {ts us : List Int} {V : Prop} {w w' : World} {e : Ending} (h : Asks n m ts us V w e w') (h1 : MayD n ts) (h2 : MayD m us) (hv : n ≠ m) : e = .returned (.tuple #[.bool false, .int .i64 40]) ∧ Below w.heap.size w w' := by
  obtain ⟨hB, r, f, rfl, ⟨k, _⟩ | ⟨_, _, _, rfl, rfl⟩ | ⟨_, _, k, _⟩⟩ := h
  · exact (k ⟨h1, h2⟩).elim
  · exact ⟨rfl, hB⟩
  · exact (hv k).elim
theorem pick_one {m : Nat} {ts : List Int} {p q : Int} {w w' : World} {e : Ending} (h : Pk m ts w e w') (hok : OkD m ts) (hp : pks m ts = [(p, q)]) : Below w.heap.size w w' ∧ ∃ b off cap, e = .returned (.tuple #[.slice (some ⟨b, off, none⟩) 1 cap, .int .i64 0]) ∧ b < w'.heap.size ∧ w'.cell? ⟨b, off, none⟩ = some (.int .i64 p) ∧ w'.cell? ⟨b, off + 1, none⟩ = some (.int .i64 q) := by
  obtain ⟨hB, v, f, rfl, ⟨k, _⟩ | ⟨_, rfl, m', e, hR⟩⟩ := h
  · exact (k hok).elim
  · obtain rfl : m = m' := by omega
    rw [hp] at hR
    rcases hR with ⟨_, h⟩ | ⟨b, off, cap, rfl, hb, hr⟩
    · cases h
    · have := hr 0 (by simp)
      refine ⟨hB, b, off, cap, rfl, hb, ?_, ?_⟩
      · have := this.1; simpa [pr] using this
      · have := this.2; simpa [pr] using this
theorem pick_none {m : Nat} {ts : List Int} {w w' : World} {e : Ending} (h : Pk m ts w e w') (hm : MayD m ts) (hok : ¬ OkD m ts) : Below w.heap.size w w' ∧ e = .returned (.tuple #[.slice none 0 0, .int .i64 6]) := by
  obtain ⟨hB, v, f, rfl, ⟨k, rfl, rfl⟩ | ⟨k, _⟩⟩ := h
  · rw [if_pos hm]; exact ⟨hB, rfl⟩
  · exact (hok k).elim

/-- one of two clocks lies in another one; or doesn't, at a place. -/
theorem in2_yes {ts us : List Int} (hc : tabs 2 (by decide) ts 2 = ts) (h : ∀ p, p < 4 → ts[p]?.getD 0 ≤ us[p]?.getD 0) (hl : ts.length = 4) : inV 2 ts us := fun _ p hp => by
  have e : clT 2 ts = ts := (clT_nat (m := 2) (by decide) ts).trans hc
  rw [e]
  exact h p (by omega)
theorem in2_no {ts us : List Int} (hk : okB 2 (by decide) ts = true) (hc : tabs 2 (by decide) ts 2 = ts) (p : Nat) (hp : p < ts.length) (h : us[p]?.getD 0 < ts[p]?.getD 0) : ¬ inV 2 ts us := fun k => by
  have := k ((okB_iff (m := 2) (by decide) ts).1 hk) p hp
  have e : clT 2 ts = ts := (clT_nat (m := 2) (by decide) ts).trans hc
  rw [e] at this
  omega
theorem pick_told (g : Nat) (ts : List Int) (w : World) (hg : lies.Lies w g 29 (cellsOf ts)) (l1 : ts.length = 4) (t1 : Tops ts) :
    Calls Tryd.prog 32 #[.agg #[.int .i64 2, .slice (some ⟨g, 0, none⟩) 4 4]] w (Pk 2 ts w) := by
  have i1 := dlaw.own_ints (cap := 4) hg
  rw [l1] at i1
  exact pick_any 2 _ ts w i1 (by omega) t1

end Go.Proofs.YthljhijcmdnonaaDoor.ilaw

namespace Go.Proofs.YthljhijcmdnonaaDoor.incl
open num rat dbm way Go.Proofs.YthljhijcmdnonaaDoor.tight Go.Proofs.YthljhijcmdnonaaDoor.tkept
open bound hiding up
set_option linter.unusedVariables false
set_option linter.unusedSectionVars false

section
variable {n : Nat} {ts us : List Int} (h0 : 0 < n) (hn : n ≤ 4) (hl : ts.length = n * n) (hu : us.length = n * n) (htop : Tops ts) (hto : Tops us)
include h0 hn hl hu htop hto
theorem beg_le_cod (i j : Nat) (hi : i < n) (hj : j < n) : way.le (beg n us i j) (cod (tat us n i j)) := by
  unfold beg
  rw [wts_in hi hj]
  refine (cod_le (tat_top (lows_tops hto n) n i j) (tat_top hto n i j)).2 ?_
  rw [beg_at hu hn hi hj]
  by_cases e : i = j
  · subst e; rw [if_pos rfl]; exact (lsr_le _ _).1
  · rw [if_neg e]; exact Int.le_refl _
/-- one that is not empty lies in another one just if what is closed of it is nowhere greater. -/
theorem lie_iff (h : OkD n ts) : inV n ts us ↔ Lie (beg n ts) (beg n us) n := by
  have hw := wts_closed h0 hn hl htop h
  have hc : Tops (clT n ts) := clT_tops htop
  have hne : ∀ k, k ≤ n → ¬ emp n (tabs n h0 ts k) := fun k hk => h.2.2 k (by simpa using hk)
  constructor
  · intro k i j
    rw [← hw]
    by_cases hij : i < n ∧ j < n
    · obtain ⟨hi, hj⟩ := hij
      have hp := k h (i * n + j) (by rw [hl]; exact place_le hn hi hj)
      have hp' : tat (clT n ts) n i j ≤ tat us n i j := hp
      rw [wts_in hi hj]
      unfold beg
      rw [wts_in hi hj]
      refine (cod_le (tat_top hc n i j) (tat_top (lows_tops hto n) n i j)).2 ?_
      rw [beg_at hu hn hi hj]
      by_cases e : i = j
      · subst e
        have hd : tat (clT n ts) n i i = 1 := by rw [clT_nat h0]; exact closed_diag h0 hn hl htop h.1.2.2.2 hne hi
        rw [if_pos rfl]
        unfold lsr
        split <;> omega
      · rw [if_neg e]; exact hp'
    · have e1 : wts n (clT n ts) i j = none := if_neg hij
      have e2 : beg n us i j = none := if_neg hij
      rw [e1, e2]
      exact le_refl _
  · intro k _ p hp
    have hp' : p < n * n := by rw [← hl]; exact hp
    have hi := (Nat.div_lt_iff_lt_mul h0).2 hp'
    have hj := Nat.mod_lt p h0
    have := le_trans (k (p / n) (p % n)) (beg_le_cod h0 hn hl hu htop hto _ _ hi hj)
    rw [← hw, wts_in hi hj] at this
    have := (cod_le (tat_top hc n _ _) (tat_top hto n _ _)).1 this
    unfold tat at this
    have e : p / n * n + p % n = p := by rw [Nat.mul_comm]; exact Nat.div_add_mod p n
    rwa [e] at this
/-- the weights of what two have in common. -/
theorem beg_les : beg n (lesT ts us) = both (beg n ts) (beg n us) := by
  have hll : (lesT ts us).length = n * n := (lesT_length _ _).trans hl
  funext i j
  show _ = mn _ _
  by_cases hij : i < n ∧ j < n
  · obtain ⟨hi, hj⟩ := hij
    unfold beg
    rw [wts_in hi hj, wts_in hi hj, wts_in hi hj, ← cod_lsr (tat_top (lows_tops htop n) n i j) (tat_top (lows_tops hto n) n i j)]
    congr 1
    rw [beg_at hll hn hi hj, beg_at hl hn hi hj, beg_at hu hn hi hj]
    have e : ∀ i j, i < n → j < n → tat (lesT ts us) n i j = lsr (tat ts n i j) (tat us n i j) := fun i j hi hj => lesT_at _ _ (by rw [hl]; exact place_le hn hi hj)
    by_cases h : i = j
    · subst h
      rw [if_pos rfl, if_pos rfl, if_pos rfl, e i i hi hi]
      unfold lsr
      repeat' split <;> omega
    · rw [if_neg h, if_neg h, if_neg h, e i j hi hj]
  · have e1 : beg n (lesT ts us) i j = none := if_neg hij
    have e2 : beg n ts i j = none := if_neg hij
    have e3 : beg n us i j = none := if_neg hij
    rw [e1, e2, e3]
    rfl
/-- times keep a matrix in which one lies that they keep. -/
theorem in_kept {qs : List (Int × Int)} (h : OkD n ts) (hm : MayD n us) (hq : MayT qs) (hqn : qs.length = n) (k : inV n ts us) (hk : keptAll n ts qs) : keptAll n us qs := fun i j hi hj => by
  have hL := (lie_iff h0 hn hl hu htop hto h).1 k
  have k1 := kept_beg hn hl htop h.1.2.2.2 hq hqn hk
  have k2 := kB_F (tms_pos hq hqn) k1 n i j
  have k3 := kB_up (tms_pos hq hqn) k2 (le_trans (hL i j) (beg_le_cod h0 hn hl hu htop hto i j hi hj))
  exact (kp_iff hq hqn hi hj (fine_at hu hn hm.2.2.2 hi hj)).2 k3
theorem ap_kept {qs : List (Int × Int)} (h : MayD n ts) (hm : MayD n us) (hq : MayT qs) (hqn : qs.length = n) (k : apV n ts us) : ¬ (keptAll n ts qs ∧ keptAll n us qs) := fun hk =>
  kept_no h0 hn ((lesT_length _ _).trans hl) (lesT_tops htop us) (lesT_may h hm) k hq hqn ((kept_les hn hl hu h hm hq hqn).2 hk)
end

/-! times that are picked keep the matrix -/
theorem keptR8 {X Y x : Int} (h : 2 * (X - Y) + 1 ≤ 16 * (x / 2) + x % 2) : keptR (p8 X) (q8 X) (p8 Y) (q8 Y) x = true := by
  have h1 := cross8 X
  have h2 := cross8 Y
  have q1 := (q8_in X).1
  have q2 := (q8_in Y).1
  have hm : 0 < q8 X * q8 Y := Int.mul_pos (by omega) (by omega)
  generalize p8 X = p at *
  generalize q8 X = q at *
  generalize p8 Y = r at *
  generalize q8 Y = s at *
  have e1 : 8 * (p * s) = X * (q * s) := by
    rw [show 8 * (p * s) = p * 8 * s by ac_rfl, h1]; ac_rfl
  have e2 : 8 * (r * q) = Y * (q * s) := by
    rw [show 8 * (r * q) = r * 8 * q by ac_rfl, h2]; ac_rfl
  have e3 : 8 * (p * s - r * q) = (X - Y) * (q * s) := by rw [Int.mul_sub, e1, e2, Int.sub_mul]
  by_cases hs : bS x = true
  · rw [keptR_lt hs]
    generalize q * s = m at *
    generalize p * s - r * q = u at *
    have hs' : x % 2 = 0 := by unfold bS at hs; exact of_decide_eq_true hs
    have h3 : (X - Y) * m < 8 * (x / 2) * m := Int.mul_lt_mul_of_pos_right (by omega) hm
    rw [Int.mul_assoc] at h3
    omega
  · rw [keptR_ge hs]
    generalize q * s = m at *
    generalize p * s - r * q = u at *
    have h3 : (X - Y) * m ≤ 8 * (x / 2) * m := Int.mul_le_mul_of_nonneg_right (by omega) (by omega)
    rw [Int.mul_assoc] at h3
    omega
section
variable {n : Nat} {ts : List Int} (h0 : 0 < n) (hn : n ≤ 4) (hl : ts.length = n * n) (htop : Tops ts) (h : OkD n ts)
include h0 hn hl htop h
theorem all_pks : (0, 1) :: pks n ts = rsOf (wts n (clT n ts)) (n - 1) := by
  have hlen : 0 < (rsOf (wts n (clT n ts)) (n - 1)).length := by rw [rsOf_length]; omega
  have h1 := rsOf_at (wts n (clT n ts)) (Nat.zero_le (n - 1))
  rw [px_zero, eight_zero.1, eight_zero.2] at h1
  unfold pks
  generalize rsOf (wts n (clT n ts)) (n - 1) = l at *
  cases l with
  | nil => simp at hlen
  | cons a l =>
    have : a = (0, 1) := by simpa [pr] using h1
    rw [this]
    rfl
theorem pks_may : MayT ((0, 1) :: pks n ts) ∧ IntsR ((0, 1) :: pks n ts) ∧ ((0, 1) :: pks n ts).length = n := by
  rw [all_pks h0 hn hl htop h]
  refine ⟨fun k hk => ?_, fun k hk => ?_, by rw [rsOf_length]; omega⟩
  · rw [rsOf_length] at hk
    rw [rsOf_at _ (by omega)]
    exact near_may (clo_near h0 hn hl htop h (by omega))
  · rw [rsOf_length] at hk
    rw [rsOf_at _ (by omega)]
    exact near_fits (clo_near h0 hn hl htop h (by omega))
theorem pks_all {us : List Int} (hu : us.length = n * n) (hm : MayD n us) (hk : ∀ i j, i < n → j < n → way.le (F (beg n ts) n i j) (cod (tat us n i j))) : keptAll n us ((0, 1) :: pks n ts) := fun i j hi hj => by
  obtain ⟨k1, k2, k3⟩ := pks_may h0 hn hl htop h
  unfold kp
  rw [kp_kB (k1 i (by omega)) (k1 j (by omega)) (fine_at hu hn hm.2.2.2 hi hj), all_pks h0 hn hl htop h, rsOf_at _ (by omega), rsOf_at _ (by omega)]
  by_cases hz : tat us n i j = 9223372036854775807
  · exact .inl hz
  · refine .inr (keptR8 ?_)
    have hg := good_tri (clo_good h0 hn hl htop h)
    have := kx_up (px_kept hn hg (clo_one h0 hn hl htop h) n (Nat.le_refl _) i j hi hj) (hk i j hi hj)
    rw [← wts_closed h0 hn hl htop h, cod_some hz] at this
    exact this
theorem pks_kept : keptAll n ts ((0, 1) :: pks n ts) := pks_all h0 hn hl htop h hl h.1 fun i j hi hj => le_trans (F_le _ _ _ _) (beg_le_cod h0 hn hl hl htop htop i j hi hj)
theorem pks_in {us : List Int} (hu : us.length = n * n) (hto : Tops us) (hm : MayD n us) (k : inV n ts us) : keptAll n us ((0, 1) :: pks n ts) := pks_all h0 hn hl htop h hu hm fun i j hi hj => le_trans ((lie_iff h0 hn hl hu htop hto h).1 k i j) (beg_le_cod h0 hn hl hu htop hto i j hi hj)
end
end Go.Proofs.YthljhijcmdnonaaDoor.incl

namespace Go.Proofs.YthljhijcmdnonaaDoor.incl
open Go.Joins Go.ChangeShapes Go.WideShapes Go.ChangeAt Go.RowKit num rat dbm way Go.Proofs.YthljhijcmdnonaaDoor.tight Go.Proofs.YthljhijcmdnonaaDoor.tkept
open bound hiding up
set_option linter.unusedVariables false
set_option linter.unusedSectionVars false

/-- the error of In and Apart. -/
def askE (n m : Int) (ts us : List Int) : Int := if MayD n ts ∧ MayD m us then (if n = m then 0 else 40) else 8
theorem asks_told {n m : Int} {ts us : List Int} {V : Prop} {w w' : World} {e : Ending} (h : Asks n m ts us V w e w') : Below w.heap.size w w' ∧ ∃ r : Bool, e = .returned (.tuple #[.bool r, .int .i64 (askE n m ts us)]) ∧ (askE n m ts us = 0 → (MayD n ts ∧ MayD m us ∧ n = m ∧ (r = true ↔ V))) := by
  obtain ⟨hB, r, f, rfl, hc⟩ := h
  unfold askE
  rcases hc with ⟨k, rfl, rfl⟩ | ⟨k1, k2, k3, rfl, rfl⟩ | ⟨k1, k2, rfl, hr, rfl⟩
  · rw [if_neg k]
    exact ⟨hB, false, rfl, fun h => absurd h (by decide)⟩
  · rw [if_pos ⟨k1, k2⟩, if_neg k3]
    exact ⟨hB, false, rfl, fun h => absurd h (by decide)⟩
  · rw [if_pos ⟨k1, k2⟩, if_pos rfl]
    exact ⟨hB, r, rfl, fun _ => ⟨k1, k2, rfl, hr⟩⟩
theorem askE_cases (n m : Int) (ts us : List Int) : askE n m ts us = 0 ∨ askE n m ts us = 8 ∨ askE n m ts us = 40 := by
  unfold askE
  split
  · split <;> simp
  · simp
theorem may_len {n : Nat} {us : List Int} (h : MayD n us) : us.length = n * n := by
  have := h.2.2.1
  rw [← Int.natCast_mul] at this
  exact Int.ofNat.inj this

section
variable {n : Int} {ts us vs : List Int} (ht : MayD n ts) (hu : MayD n us) (hv : MayD n vs) (tt : Tops ts) (tu : Tops us) (tv : Tops vs)
include ht hu tt tu
theorem in_alive (h : OkD n ts) (k : inV n ts us) : OkD n us := by
  obtain ⟨m, rfl, h0, hn, hl⟩ := may_nat ht
  have hul := may_len hu
  exact (okD_good h0 hn hul tu hu).2 (lie_good (clo_good h0 hn hl tt h) ((lie_iff h0 hn hl hul tt tu h).1 k))
theorem les_good : OkD n (lesT ts us) ↔ ∃ m : Nat, n = m ∧ way.Good (both (beg m ts) (beg m us)) m := by
  obtain ⟨m, rfl, h0, hn, hl⟩ := may_nat ht
  have hul := may_len hu
  rw [okD_good h0 hn ((lesT_length _ _).trans hl) (lesT_tops tt us) (lesT_may ht hu), beg_les h0 hn hl hul tt tu]
  constructor
  · intro h; exact ⟨m, rfl, h⟩
  · rintro ⟨k, e, h⟩
    obtain rfl : m = k := by omega
    exact h
theorem les_left (h : OkD n (lesT ts us)) : OkD n ts := by
  obtain ⟨m, rfl, h0, hn, hl⟩ := may_nat ht
  obtain ⟨k, e, g⟩ := (les_good ht hu tt tu).1 h
  obtain rfl : m = k := by omega
  exact (okD_good h0 hn hl tt ht).2 (both_left g)
include hv tv
theorem in_chain (k : inV n ts us) (l : inV n us vs) : inV n ts vs := by
  by_cases h : OkD n ts
  · obtain ⟨m, rfl, h0, hn, hl⟩ := may_nat ht
    have hul := may_len hu
    have hvl := may_len hv
    have hb := in_alive ht hu tt tu h k
    exact (lie_iff h0 hn hl hvl tt tv h).2 (way.lie_trans (clo_good h0 hn hl tt h) ((lie_iff h0 hn hl hul tt tu h).1 k) ((lie_iff h0 hn hul hvl tu tv hb).1 l))
  · exact fun hh => (h hh).elim
theorem ap_chain (k : inV n ts us) (l : apV n us vs) : apV n ts vs := fun ho => by
  have h := les_left ht hv tt tv ho
  obtain ⟨m, rfl, h0, hn, hl⟩ := may_nat ht
  have hul := may_len hu
  obtain ⟨k', e, g⟩ := (les_good ht hv tt tv).1 ho
  obtain rfl : m = k' := by omega
  exact l ((les_good hu hv tu tv).2 ⟨m, rfl, lie_apart ((lie_iff h0 hn hl hul tt tu h).1 k) g⟩)
end
section
variable {n : Int} {ts us vs : List Int} (ht : MayD n ts) (hu : MayD n us) (tt : Tops ts) (tu : Tops us)
include ht hu tt tu
/-- what two have in common lies in both. -/
theorem m_in (h : OkD n (lesT ts us)) (hm : MayD n (clT n (lesT ts us))) : inV n (clT n (lesT ts us)) ts ∧ inV n (clT n (lesT ts us)) us := by
  obtain ⟨m, rfl, h0, hn, hl⟩ := may_nat ht
  have hul := may_len hu
  have hll : (lesT ts us).length = m * m := (lesT_length _ _).trans hl
  have tl := lesT_tops tt us
  have hcl : (clT m (lesT ts us)).length = m * m := (clT_length h).trans hll
  have tc : Tops (clT m (lesT ts us)) := clT_tops tl
  have g := clo_good h0 hn hll tl h
  have hb : beg m (clT m (lesT ts us)) = F (beg m (lesT ts us)) m := by
    funext i j
    rw [clT_nat h0]
    exact beg_closed h0 hn hll tl h i j
  have hok : OkD m (clT m (lesT ts us)) := (okD_good h0 hn hcl tc hm).2 (by rw [hb]; exact good_F g)
  rw [lie_iff h0 hn hcl hl tc tt hok, lie_iff h0 hn hcl hul tc tu hok, hb]
  have hm' := lie_m (beg m ts) (beg m us) m
  rw [beg_les h0 hn hl hul tt tu] at g ⊢
  exact ⟨fun i j => by rw [F_self g]; exact hm'.1 i j, fun i j => by rw [F_self g]; exact hm'.2 i j⟩
/-- one lies in another one just if what they have in common is what is closed of it. -/
theorem in_iff_m (h : OkD n (lesT ts us)) : inV n ts us ↔ clT n (lesT ts us) = clT n ts := by
  have ho := les_left ht hu tt tu h
  obtain ⟨m, rfl, h0, hn, hl⟩ := may_nat ht
  have hul := may_len hu
  have hll : (lesT ts us).length = m * m := (lesT_length _ _).trans hl
  have tl := lesT_tops tt us
  have g := clo_good h0 hn hll tl h
  have g1 := clo_good h0 hn hl tt ho
  rw [lie_iff h0 hn hl hul tt tu ho, lie_both g1]
  have e1 := wts_closed h0 hn hll tl h
  have e2 := wts_closed h0 hn hl tt ho
  rw [beg_les h0 hn hl hul tt tu] at g e1
  constructor
  · rintro ⟨_, k⟩
    refine list_ext h0 ((clT_length h).trans hll) ((clT_length ho).trans hl) fun i j hi hj => cod_inj ?_
    rw [← wts_in (us := clT m (lesT ts us)) hi hj, ← wts_in (us := clT m ts) hi hj, e1, e2]
    exact k i j
  · intro k
    refine ⟨g, fun i j => ?_⟩
    rw [← e1, ← e2, k]
/-- one that lies in both lies in what they have in common. -/
theorem in_both {vs : List Int} (hv : MayD n vs) (tv : Tops vs) (h : OkD n (lesT ts us)) (hm : MayD n (clT n (lesT ts us))) : inV n vs (clT n (lesT ts us)) ↔ inV n vs ts ∧ inV n vs us := by
  by_cases ho : OkD n vs
  · obtain ⟨m, rfl, h0, hn, hl⟩ := may_nat ht
    have hul := may_len hu
    have hvl := may_len hv
    have hll : (lesT ts us).length = m * m := (lesT_length _ _).trans hl
    have tl := lesT_tops tt us
    have hcl : (clT m (lesT ts us)).length = m * m := (clT_length h).trans hll
    have tc : Tops (clT m (lesT ts us)) := clT_tops tl
    have hb : beg m (clT m (lesT ts us)) = F (beg m (lesT ts us)) m := by
      funext i j
      rw [clT_nat h0]
      exact beg_closed h0 hn hll tl h i j
    rw [lie_iff h0 hn hvl hcl tv tc ho, lie_iff h0 hn hvl hl tv tt ho, lie_iff h0 hn hvl hul tv tu ho, hb, beg_les h0 hn hl hul tt tu]
    exact lie_common (clo_good h0 hn hvl tv ho)
  · exact ⟨fun _ => ⟨fun k => (ho k).elim, fun k => (ho k).elim⟩, fun _ k => (ho k).elim⟩
end
end Go.Proofs.YthljhijcmdnonaaDoor.incl

namespace Go.Proofs.YthljhijcmdnonaaDoor.ilaw
open Go.Joins Go.ChangeShapes Go.WideShapes Go.ChangeAt Go.RowKit num dbm Go.Proofs.YthljhijcmdnonaaDoor.tlaw
open bound hiding up
set_option linter.unusedVariables false
theorem st2 (n m : Int) (sv tv : Value) (ts us : List Int) (w : World) (hI : law.Ints w.heap.size w sv ts) (hJ : law.Ints w.heap.size w tv us) : St [(w.heap.size + 1, m, tv, us), (w.heap.size, n, sv, ts)] w ((w.alloc (.cells #[.int .i64 n, sv] 58)).alloc (.cells #[.int .i64 m, tv] 58)) := by
  have K : Below w.heap.size w ((w.alloc (.cells #[.int .i64 n, sv] 58)).alloc (.cells #[.int .i64 m, tv] 58)) := bound.up2 _ _ _
  refine ⟨K, fun b hb => ?_⟩
  rcases List.mem_cons.1 hb with rfl | hb
  · exact ⟨lies.made_at _ _ _ _ (World.size_alloc _ _), (hJ.below K).mono K.size⟩
  · obtain rfl := List.mem_singleton.1 hb
    exact ⟨lies.on_alloc (lies.made _ _ _) _, (hI.below K).mono K.size⟩
theorem st3 (n m l : Int) (sv tv uv : Value) (ts us vs : List Int) (w : World) (hI : law.Ints w.heap.size w sv ts) (hJ : law.Ints w.heap.size w tv us) (hK : law.Ints w.heap.size w uv vs) : St [(w.heap.size + 1 + 1, l, uv, vs), (w.heap.size + 1, m, tv, us), (w.heap.size, n, sv, ts)] w (((w.alloc (.cells #[.int .i64 n, sv] 58)).alloc (.cells #[.int .i64 m, tv] 58)).alloc (.cells #[.int .i64 l, uv] 58)) := by
  have K : Below w.heap.size w (((w.alloc (.cells #[.int .i64 n, sv] 58)).alloc (.cells #[.int .i64 m, tv] 58)).alloc (.cells #[.int .i64 l, uv] 58)) := bound.up3 _ _ _ _
  have S2 := (st2 n m sv tv ts us w hI hJ).alloc (.cells #[.int .i64 l, uv] 58)
  refine ⟨K, fun b hb => ?_⟩
  rcases List.mem_cons.1 hb with rfl | hb
  · exact ⟨lies.made_at _ _ _ _ (by simp), (hK.below K).mono K.size⟩
  · exact S2.2 b hb
end Go.Proofs.YthljhijcmdnonaaDoor.ilaw
