/-
  Zones in windows, pure: cuts, windows, a wider window, zones so much later; each theorem names its conditions.
-/
import Derived.Test.YtkfnjdmjojodhaaDoorZoneA
import Derived.Test.YtkfnjdmjojodhaaDoorProjA
import Derived.Test.YtkfnjdmjojodhaaDoorCompA
namespace Go.Proofs.YtkfnjdmjojodhaaDoor.way
set_option linter.unusedVariables false
set_option linter.unusedSimpArgs false

/-- closed ahead, or not: with another table's weights the same comes. -/
theorem both_good {d e : Tab} {n : Nat} : Good (both (F d n) e) n ↔ Good (both d e) n := by
  refine ⟨good_mono fun i j => mn_mono (F_le d n i j) (le_refl _), fun h => good_mono (F_both_le d e n) (good_F h)⟩
theorem both_F {d e : Tab} {n : Nat} (h : Good (both d e) n) (i j : Nat) : F (both (F d n) e) n i j = F (both d e) n i j := by
  refine le_antisymm (F_mono (fun i j => mn_mono (F_le d n i j) (le_refl _)) n i j) ?_
  have := F_mono (F_both_le d e n) n i j
  rwa [F_self h] at this
end Go.Proofs.YtkfnjdmjojodhaaDoor.way

namespace Go.Proofs.YtkfnjdmjojodhaaDoor.win
open way num rat dbm Go.Proofs.YtkfnjdmjojodhaaDoor.tight Go.Proofs.YtkfnjdmjojodhaaDoor.tkept Go.Proofs.YtkfnjdmjojodhaaDoor.incl Go.Proofs.YtkfnjdmjojodhaaDoor.zone
open bound hiding up
set_option linter.unusedVariables false
set_option linter.unusedSimpArgs false
set_option linter.unusedSectionVars false

/-- what two have in common is the same, the first one closed ahead or not. -/
theorem les_cl {n : Int} {ts us : List Int} (ht : MayD n ts) (hu : MayD n us) (tt : Tops ts) (tu : Tops us) (ho : OkD n ts) (hm : MayD n (clT n ts)) :
    (OkD n (lesT (clT n ts) us) ↔ OkD n (lesT ts us)) ∧ (OkD n (lesT ts us) → clT n (lesT (clT n ts) us) = clT n (lesT ts us)) := by
  obtain ⟨m, rfl, h0, hn, hl⟩ := may_nat ht
  have hul := may_len hu
  have hcl : (clT m ts).length = m * m := (clT_length ho).trans hl
  have tc : Tops (clT m ts) := clT_tops tt
  have hb : beg m (clT m ts) = F (beg m ts) m := by
    funext i j
    rw [clT_nat h0]
    exact beg_closed h0 hn hl tt ho i j
  have hlc : (lesT (clT m ts) us).length = m * m := (lesT_length _ _).trans hcl
  have hll : (lesT ts us).length = m * m := (lesT_length _ _).trans hl
  have ok : OkD m (lesT (clT m ts) us) ↔ OkD m (lesT ts us) := by
    rw [okD_good h0 hn hlc (lesT_tops tc us) (lesT_may hm hu), okD_good h0 hn hll (lesT_tops tt us) (lesT_may ht hu), beg_les h0 hn hcl hul tc tu, beg_les h0 hn hl hul tt tu, hb]
    exact way.both_good
  refine ⟨ok, fun h => ?_⟩
  have k := ok.2 h
  have g := clo_good h0 hn hll (lesT_tops tt us) h
  have e1 := wts_closed h0 hn hlc (lesT_tops tc us) k
  have e2 := wts_closed h0 hn hll (lesT_tops tt us) h
  rw [beg_les h0 hn hcl hul tc tu, hb] at e1
  rw [beg_les h0 hn hl hul tt tu] at e2 g
  refine list_ext h0 ((clT_length k).trans hlc) ((clT_length h).trans hll) fun i j hi hj => cod_inj ?_
  rw [← wts_in (us := clT m (lesT (clT m ts) us)) hi hj, ← wts_in (us := clT m (lesT ts us)) hi hj, e1, e2]
  exact way.both_F g i j
/-- both closed ahead. -/
theorem les_two {n : Int} {ts us : List Int} (ht : MayD n ts) (hu : MayD n us) (tt : Tops ts) (tu : Tops us) (ho : OkD n ts) (hm : MayD n (clT n ts)) (hp : OkD n us) (hq : MayD n (clT n us)) :
    (OkD n (lesT (clT n ts) (clT n us)) ↔ OkD n (lesT ts us)) ∧ (OkD n (lesT ts us) → clT n (lesT (clT n ts) (clT n us)) = clT n (lesT ts us)) := by
  have hc : ∀ a b : List Int, a.length = b.length → lesT a b = lesT b a := fun a b e => lesT_comm e
  have l1 : ts.length = us.length := by
    obtain ⟨m, rfl, h0, hn, hl⟩ := may_nat ht
    exact hl.trans (may_len hu).symm
  have l2 : (clT n ts).length = ts.length := clT_length ho
  have l3 : (clT n us).length = us.length := clT_length hp
  have a := les_cl ht (us := clT n us) hq tt (clT_tops tu) ho hm
  have b := les_cl hu (us := ts) ht tu tt hp hq
  rw [hc _ _ (l3.trans l1.symm), hc _ _ l1.symm] at b
  exact ⟨a.1.trans b.1, fun h => (a.2 (b.1.2 h)).trans (b.2 h)⟩

/-- which of two is had in common first turns nothing. -/
theorem les_swap (ts us vs : List Int) : lesT (lesT ts us) vs = lesT (lesT ts vs) us := by
  refine list_at (by simp only [lesT_length]) fun p hp => ?_
  simp only [lesT_length] at hp
  rw [lesT_at _ _ (by rw [lesT_length]; exact hp), lesT_at _ _ hp, lesT_at _ _ (by rw [lesT_length]; exact hp), lesT_at _ _ hp, lsr_right]
section
variable {n : Int} {ts us vs : List Int} (ht : MayD n ts) (hu : MayD n us) (hv : MayD n vs) (tt : Tops ts) (tu : Tops us) (tv : Tops vs)
include ht hu hv tt tu tv
theorem cut_swap (h : OkD n (lesT ts us)) (k : OkD n (lesT ts vs)) (hm : MayD n (clT n (lesT ts us))) (km : MayD n (clT n (lesT ts vs))) :
    (OkD n (lesT (clT n (lesT ts us)) vs) ↔ OkD n (lesT (clT n (lesT ts vs)) us)) ∧ (OkD n (lesT (clT n (lesT ts us)) vs) → clT n (lesT (clT n (lesT ts us)) vs) = clT n (lesT (clT n (lesT ts vs)) us)) := by
  have a := les_cl (lesT_may ht hu) hv (lesT_tops tt us) tv h hm
  have b := les_cl (lesT_may ht hv) hu (lesT_tops tt vs) tu k km
  have e := les_swap ts us vs
  refine ⟨by rw [a.1, b.1, e], fun o => ?_⟩
  have o1 := a.1.1 o
  rw [a.2 o1, e, b.2 (by rwa [e] at o1)]
/-- cut by one to nothing: to nothing too behind the other one. -/
theorem cut_none (h : ¬ OkD n (lesT ts us)) (k : OkD n (lesT ts vs)) (km : MayD n (clT n (lesT ts vs))) : ¬ OkD n (lesT (clT n (lesT ts vs)) us) := fun o => h <| by
  have b := les_cl (lesT_may ht hv) hu (lesT_tops tt vs) tu k km
  have o1 := b.1.1 o
  rw [← les_swap] at o1
  exact les_left (lesT_may ht hu) hv (lesT_tops tt us) tv o1
end

/-! what is cut out of a zone -/
section
variable {z w : List Int} (tz : Tops z) (hz : MayD 3 (fullT z)) (hw : MayD 3 (fullT w))
include tz hz hw
theorem cut_kept {m : List Int} (ho : OkD 3 (lesT (fullT z) (fullT w))) (hm : MayD 3 (clT 3 (lesT (fullT z) (fullT w)))) (e : m = shortT (clT 3 (lesT (fullT z) (fullT w)))) :
    MayZ m ∧ Tops m ∧ ∀ x y u v, MayR x y → MayR u v → (keptAll 3 (fullT m) [(0, 1), (x, y), (u, v)] ↔ keptAll 3 (fullT z) [(0, 1), (x, y), (u, v)] ∧ keptAll 3 (fullT w) [(0, 1), (x, y), (u, v)]) := by
  have tl := lesT_tops (full_tops tz) (fullT w)
  obtain ⟨e1, e2⟩ := of_may (lesT_length _ _) tl ho hm
  rw [← e] at e1 e2
  refine ⟨e2, ?_, fun x y u v hx hu => ?_⟩
  · rw [e]; exact short_tops (clT_tops tl)
  · have hq := may_three hx hu
    have k1 := tkept.kept_cl (n := 3) (L := lesT (fullT z) (fullT w)) (by decide) (by decide) (lesT_length _ _) tl ho hm hq rfl
    have k2 := tkept.kept_les (n := 3) (ts := fullT z) (us := fullT w) (by decide) rfl rfl hz hw hq rfl
    rw [e1]
    exact k1.trans k2
theorem cut_out (ho : ¬ OkD 3 (lesT (fullT z) (fullT w))) : ∀ x y u v, MayR x y → MayR u v → ¬ (keptAll 3 (fullT z) [(0, 1), (x, y), (u, v)] ∧ keptAll 3 (fullT w) [(0, 1), (x, y), (u, v)]) := fun x y u v hx hu h => by
  have hq := may_three hx hu
  exact tkept.kept_no (n := 3) (L := lesT (fullT z) (fullT w)) (by decide) (by decide) (lesT_length _ _) (lesT_tops (full_tops tz) _) (lesT_may hz hw) ho hq rfl ((tkept.kept_les (n := 3) (ts := fullT z) (us := fullT w) (by decide) rfl rfl hz hw hq rfl).2 h)
end
/-- what cuts: a span of u less t; a span of u. -/
def diffZ (s : Sp) : List Int := [9223372036854775807, 9223372036854775807, 9223372036854775807, 9223372036854775807, hiS s, loS s]
def lateZ (s : Sp) : List Int := [9223372036854775807, 9223372036854775807, hiS s, loS s, 9223372036854775807, 9223372036854775807]
theorem none_fine : Fine 9223372036854775807 := .inl rfl
theorem diff_may {s : Sp} (h : MayP s) : MayD 3 (fullT (diffZ s)) := full_may fun i hi => by
  rcases (by omega : i = 0 ∨ i = 1 ∨ i = 2 ∨ i = 3 ∨ i = 4 ∨ i = 5) with rfl | rfl | rfl | rfl | rfl | rfl
  · exact none_fine
  · exact none_fine
  · exact none_fine
  · exact none_fine
  · exact hi_fine h
  · exact lo_fine h
theorem late_may {s : Sp} (h : MayP s) : MayD 3 (fullT (lateZ s)) := full_may fun i hi => by
  rcases (by omega : i = 0 ∨ i = 1 ∨ i = 2 ∨ i = 3 ∨ i = 4 ∨ i = 5) with rfl | rfl | rfl | rfl | rfl | rfl
  · exact none_fine
  · exact none_fine
  · exact hi_fine h
  · exact lo_fine h
  · exact none_fine
  · exact none_fine
theorem diff_tops {s : Sp} (h : MayP s) : Tops (diffZ s) := by
  have h1 := fine_le (hi_fine h)
  have h2 := fine_le (lo_fine h)
  intro x hx
  unfold diffZ at hx
  simp only [List.mem_cons, List.not_mem_nil, or_false] at hx
  omega
theorem late_tops {s : Sp} (h : MayP s) : Tops (lateZ s) := by
  have h1 := fine_le (hi_fine h)
  have h2 := fine_le (lo_fine h)
  intro x hx
  unfold lateZ at hx
  simp only [List.mem_cons, List.not_mem_nil, or_false] at hx
  omega
theorem kp_none {a b c d : Int} (h : MayR a b) (k : MayR c d) : kpV a b c d 9223372036854775807 = true := (kp_kB h k none_fine).2 (.inl rfl)
theorem diff_kept {s : Sp} (hs : MayP s) {a b c d p q : Int} (h : MayR a b) (k : MayR c d) (m : MayR p q) (e : p * (d * b) = (c * b - a * d) * q) :
    keptAll 3 (fullT (diffZ s)) [(0, 1), (a, b), (c, d)] ↔ inS s p q = true := by
  rw [kept_six h k]
  show kpV a b 0 1 9223372036854775807 = true ∧ kpV 0 1 a b 9223372036854775807 = true ∧ kpV c d 0 1 9223372036854775807 = true ∧ kpV 0 1 c d 9223372036854775807 = true ∧ kpV c d a b (hiS s) = true ∧ kpV a b c d (loS s) = true ↔ _
  rw [(kp_diff h k m (hi_fine hs) e).1, (kp_diff h k m (lo_fine hs) e).2, ← in_span hs m]
  exact ⟨fun ⟨_, _, _, _, x, y⟩ => ⟨x, y⟩, fun ⟨x, y⟩ => ⟨kp_none h zero_may, kp_none zero_may h, kp_none k zero_may, kp_none zero_may k, x, y⟩⟩
theorem late_kept {s : Sp} (hs : MayP s) {a b c d : Int} (h : MayR a b) (k : MayR c d) : keptAll 3 (fullT (lateZ s)) [(0, 1), (a, b), (c, d)] ↔ inS s c d = true := by
  rw [kept_six h k]
  show kpV a b 0 1 9223372036854775807 = true ∧ kpV 0 1 a b 9223372036854775807 = true ∧ kpV c d 0 1 (hiS s) = true ∧ kpV 0 1 c d (loS s) = true ∧ kpV c d a b 9223372036854775807 = true ∧ kpV a b c d 9223372036854775807 = true ↔ _
  rw [← in_span hs k]
  exact ⟨fun ⟨_, _, x, y, _, _⟩ => ⟨x, y⟩, fun ⟨x, y⟩ => ⟨kp_none h zero_may, kp_none zero_may h, x, y, kp_none k h, kp_none h k⟩⟩
/-- a window's span of u: above the first number, at most the second one. -/
def winS (f t : Int) : Sp := (f, true, t, false, false)
theorem win_may {f t : Int} (hf : In f) (ht : In t) (h : f ≤ t) : MayP (winS f t) := ⟨hf, .inr ⟨rfl, ht, h⟩⟩
/-- windows that follow one another share nothing. -/
theorem win_apart {f t g u a b : Int} (hb : 0 < b) (htg : t ≤ g) (h : inS (winS f t) a b = true) (k : inS (winS g u) a b = true) : False := by
  unfold inS at h k
  rw [Bool.and_eq_true] at h k
  have h2 : decide (a ≤ t * b) = true := h.2
  have k1 : decide (g * b < a) = true := k.1
  have h3 := of_decide_eq_true h2
  have k3 := of_decide_eq_true k1
  have := Int.mul_le_mul_of_nonneg_right htg (Int.le_of_lt hb)
  omega
/-- what is answered for a zone that may be, cut by another one's bounds. -/
def CutR (z w out : List Int) (f : Int) : Prop :=
  (¬ OkD 3 (lesT (fullT z) (fullT w)) ∧ out = zero6 ∧ f = 6) ∨ (OkD 3 (lesT (fullT z) (fullT w)) ∧ ¬ MayD 3 (clT 3 (lesT (fullT z) (fullT w))) ∧ out = zero6 ∧ f = 8) ∨
    (OkD 3 (lesT (fullT z) (fullT w)) ∧ MayD 3 (clT 3 (lesT (fullT z) (fullT w))) ∧ out = shortT (clT 3 (lesT (fullT z) (fullT w))) ∧ f = 0)
theorem cut_good {z w out : List Int} (tz : Tops z) (hz : MayD 3 (fullT z)) (hw : MayD 3 (fullT w)) (h : CutR z w out 0) :
    MayZ out ∧ Tops out ∧ fullT out = clT 3 (lesT (fullT z) (fullT w)) ∧ OkD 3 (lesT (fullT z) (fullT w)) ∧ ∀ x y u v, MayR x y → MayR u v → (keptAll 3 (fullT out) [(0, 1), (x, y), (u, v)] ↔ keptAll 3 (fullT z) [(0, 1), (x, y), (u, v)] ∧ keptAll 3 (fullT w) [(0, 1), (x, y), (u, v)]) := by
  rcases h with ⟨_, _, e⟩ | ⟨_, _, _, e⟩ | ⟨ho, hm, e, _⟩
  · cases e
  · cases e
  · obtain ⟨a, b, c⟩ := cut_kept tz hz hw ho hm e
    refine ⟨a, b, ?_, ho, c⟩
    rw [e]
    exact (of_may (lesT_length _ _) (lesT_tops (full_tops tz) _) ho hm).1
/-- a span first, or a window first. -/
theorem cut_order {z s v a b : List Int} (tz : Tops z) (ts : Tops s) (tv : Tops v) (hz : MayD 3 (fullT z)) (hs : MayD 3 (fullT s)) (hv : MayD 3 (fullT v)) (h : CutR z s a 0) (k : CutR z v b 0) (x y : List Int) (f g : Int) (hx : CutR a v x f) (hy : CutR b s y g) : x = y ∧ f = g := by
  obtain ⟨_, _, ea, oa, _⟩ := cut_good tz hz hs h
  obtain ⟨_, _, eb, ob, _⟩ := cut_good tz hz hv k
  have ma : MayD 3 (clT 3 (lesT (fullT z) (fullT s))) := by rcases h with ⟨_, _, e⟩ | ⟨_, _, _, e⟩ | ⟨_, hm, _, _⟩ <;> first | exact hm | cases e
  have mb : MayD 3 (clT 3 (lesT (fullT z) (fullT v))) := by rcases k with ⟨_, _, e⟩ | ⟨_, _, _, e⟩ | ⟨_, hm, _, _⟩ <;> first | exact hm | cases e
  obtain ⟨o, e⟩ := cut_swap hz hs hv (full_tops tz) (full_tops ts) (full_tops tv) oa ob ma mb
  unfold CutR at hx hy
  rw [ea] at hx
  rw [eb] at hy
  rcases hx with ⟨o1, x1, f1⟩ | ⟨o1, m1, x1, f1⟩ | ⟨o1, m1, x1, f1⟩ <;> rcases hy with ⟨o2, y1, g1⟩ | ⟨o2, m2, y1, g1⟩ | ⟨o2, m2, y1, g1⟩
  · exact ⟨x1.trans y1.symm, f1.trans g1.symm⟩
  · exact (o1 (o.2 o2)).elim
  · exact (o1 (o.2 o2)).elim
  · exact (o2 (o.1 o1)).elim
  · exact ⟨x1.trans y1.symm, f1.trans g1.symm⟩
  · rw [e o1] at m1; exact (m1 m2).elim
  · exact (o2 (o.1 o1)).elim
  · rw [e o1] at m1; exact (m2 m1).elim
  · rw [x1, y1, e o1]; exact ⟨rfl, f1.trans g1.symm⟩
/-- a lesser zone, cut by the same. -/
theorem cut_less {l z w : List Int} (tl : Tops l) (tz : Tops z) (hz : MayD 3 (fullT z)) (hw : MayD 3 (fullT w)) (hle : ∀ p, p < 9 → (fullT l)[p]?.getD 0 ≤ (fullT z)[p]?.getD 0) (h : OkD 3 (lesT (fullT l) (fullT w))) :
    OkD 3 (lesT (fullT z) (fullT w)) ∧ ∀ p, p < 9 → (clT 3 (lesT (fullT l) (fullT w)))[p]?.getD 0 ≤ (clT 3 (lesT (fullT z) (fullT w)))[p]?.getD 0 := by
  obtain ⟨a, b⟩ := cl_less (n := 3) h (lesT_may hz hw) (lesT_tops (full_tops tz) _) (lesT_tops (full_tops tl) _) fun i j => by
    show (lesT (fullT l) (fullT w))[i * 3 + j]?.getD 0 ≤ (lesT (fullT z) (fullT w))[i * 3 + j]?.getD 0
    by_cases hp : i * 3 + j < 9
    · rw [lesT_at _ _ (show i * 3 + j < (fullT l).length from hp), lesT_at _ _ (show i * 3 + j < (fullT z).length from hp)]
      have := hle _ hp
      unfold lsr
      repeat' split <;> omega
    · rw [List.getElem?_eq_none (by rw [lesT_length]; exact Nat.not_lt.1 hp), List.getElem?_eq_none (by rw [lesT_length]; exact Nat.not_lt.1 hp)]
      exact Int.le_refl _
  exact ⟨a, fun p hp => b p (by rw [lesT_length]; exact hp)⟩
end Go.Proofs.YtkfnjdmjojodhaaDoor.win

namespace Go.Proofs.YtkfnjdmjojodhaaDoor.way
set_option linter.unusedVariables false
set_option linter.unusedSimpArgs false

/-- a weight with so much more. -/
def sh : B → Int → B
  | none, _ => none
  | some a, k => some (a + 2 * k)
theorem sh_zero (x : B) : sh x 0 = x := by
  cases x with
  | none => rfl
  | some a => exact congrArg some (by omega)
theorem ad_sh (x y : B) (k l : Int) : ad (sh x k) (sh y l) = sh (ad x y) (k + l) := by
  cases x with
  | none => simp only [sh, none_ad]
  | some a => cases y with
    | none => simp only [sh, ad_none]
    | some b =>
      simp only [sh, ad_some]
      have e1 : (a + 2 * k) / 2 = a / 2 + k := by omega
      have e2 : (b + 2 * l) / 2 = b / 2 + l := by omega
      have e3 : (a + 2 * k) % 2 = a % 2 := by omega
      have e4 : (b + 2 * l) % 2 = b % 2 := by omega
      rw [e1, e2, e3, e4]
      generalize min (a % 2) (b % 2) = m
      exact congrArg some (by omega)
theorem le_sh {x y : B} {k : Int} (h : le x y) : le (sh x k) (sh y k) := by
  cases y with
  | none => exact le_none _
  | some b => cases x with
    | none => exact h.elim
    | some a => exact Int.add_le_add_right h _
end Go.Proofs.YtkfnjdmjojodhaaDoor.way

namespace Go.Proofs.YtkfnjdmjojodhaaDoor.win
open way num rat dbm Go.Proofs.YtkfnjdmjojodhaaDoor.tight Go.Proofs.YtkfnjdmjojodhaaDoor.tkept Go.Proofs.YtkfnjdmjojodhaaDoor.incl Go.Proofs.YtkfnjdmjojodhaaDoor.zone Go.Proofs.YtkfnjdmjojodhaaDoor.comp
open bound hiding up
set_option linter.unusedVariables false
set_option linter.unusedSimpArgs false
set_option linter.unusedSectionVars false

/-- a bound with so much more: none stays none. -/
def shB (b k : Int) : Int := if b = 9223372036854775807 then b else b + 2 * k
/-- a zone, so much later. -/
def laterT (z : List Int) (k : Int) : List Int := [shB (z[0]?.getD 0) k, shB (z[1]?.getD 0) (-k), shB (z[2]?.getD 0) k, shB (z[3]?.getD 0) (-k), z[4]?.getD 0, z[5]?.getD 0]
theorem later_length (z : List Int) (k : Int) : (laterT z k).length = 6 := rfl
theorem shB_zero (b : Int) : shB b 0 = b := by unfold shB; split <;> omega
theorem shB_back {b k : Int} (h : Fine b) (hk : In k) : shB (shB b k) (-k) = b := by
  unfold shB
  unfold Fine at h
  unfold In at hk
  by_cases e : b = 9223372036854775807
  · rw [if_pos e, if_pos e]
  · rw [if_neg e, if_neg (by omega)]; omega
theorem shB_top {b k : Int} (h : Fine b) (hk : In k) : shB b k ≤ 9223372036854775807 := by
  unfold shB
  unfold Fine at h
  unfold In at hk
  split <;> omega
theorem cod_shB {b k : Int} (h : Fine b) (hk : In k) : cod (shB b k) = sh (cod b) k := by
  unfold shB
  unfold Fine at h
  unfold In at hk
  by_cases e : b = 9223372036854775807
  · rw [if_pos e, e, cod_none]; rfl
  · rw [if_neg e, cod_some e, cod_some (by omega)]; rfl
theorem in_neg {k : Int} (h : In k) : In (-k) := ⟨by unfold In at h; omega, by unfold In at h; omega⟩
/-- a time's place: 0 has none. -/
def pt (i : Nat) : Int := if i = 0 then 0 else 1
theorem later_zw {z : List Int} {k : Int} (h : MayD 3 (fullT z)) (hk : In k) : ∀ i j, i < 3 → j < 3 → zw (laterT z k) i j = sh (zw z i j) (k * (pt i - pt j)) := fun i j hi hj => by
  have f := six_fine h
  have p : k * (pt 1 - pt 0) = k := by show k * (1 - 0) = k; omega
  have q : k * (pt 0 - pt 1) = -k := by show k * (0 - 1) = -k; omega
  have o : ∀ i, k * (pt i - pt i) = 0 := fun i => by rw [Int.sub_self, Int.mul_zero]
  rcases (by omega : i = 0 ∨ i = 1 ∨ i = 2) with rfl | rfl | rfl <;> rcases (by omega : j = 0 ∨ j = 1 ∨ j = 2) with rfl | rfl | rfl
  · rw [o, sh_zero]; rfl
  · rw [q]; exact cod_shB (f 1 (by decide)) (in_neg hk)
  · rw [show pt 2 = pt 1 from rfl, q]; exact cod_shB (f 3 (by decide)) (in_neg hk)
  · rw [p]; exact cod_shB (f 0 (by decide)) hk
  · rw [o, sh_zero]; rfl
  · rw [show pt 2 = pt 1 from rfl, o, sh_zero]; rfl
  · rw [show pt 2 = pt 1 from rfl, p]; exact cod_shB (f 2 (by decide)) hk
  · rw [show pt 2 = pt 1 from rfl, o, sh_zero]; rfl
  · rw [o, sh_zero]; rfl
theorem later_tops {z : List Int} {k : Int} (h : MayD 3 (fullT z)) (hk : In k) : Tops (laterT z k) := tops_at fun p hp => by
  have f := six_fine h
  have hp : p < 6 := hp
  rcases (by omega : p = 0 ∨ p = 1 ∨ p = 2 ∨ p = 3 ∨ p = 4 ∨ p = 5) with rfl | rfl | rfl | rfl | rfl | rfl
  · exact shB_top (f 0 (by decide)) hk
  · exact shB_top (f 1 (by decide)) (in_neg hk)
  · exact shB_top (f 2 (by decide)) hk
  · exact shB_top (f 3 (by decide)) (in_neg hk)
  · exact fine_le (f 4 (by decide))
  · exact fine_le (f 5 (by decide))
/-- closed stays closed. -/
theorem later_cl {z : List Int} {k : Int} (h : MayD 3 (fullT z)) (hk : In k) (hc : Cl (fun i => i < 3) (zw z)) : Cl (fun i => i < 3) (zw (laterT z k)) := by
  refine ⟨fun i j m hi hj hm => ?_, fun i hi => ?_⟩
  · rw [later_zw h hk i j hi hj, later_zw h hk i m hi hm, later_zw h hk m j hm hj, ad_sh, ← Int.mul_add, show pt i - pt m + (pt m - pt j) = pt i - pt j by omega]
    exact le_sh (hc.1 i j m hi hj hm)
  · rw [later_zw h hk i i hi hi, Int.sub_self, Int.mul_zero, sh_zero]; exact hc.2 i hi
theorem later_may {z : List Int} {k : Int} (tz : Tops z) (h : MayZ z) (hk : In k) (hm : MayD 3 (fullT (laterT z k))) : MayZ (laterT z k) :=
  cl_may (later_tops h.may hk) hm (later_cl h.may hk (may_cl tz h))
/-- as much sooner is the zone. -/
theorem later_back {z : List Int} {k : Int} (l : z.length = 6) (h : MayD 3 (fullT z)) (hk : In k) : laterT (laterT z k) (-k) = z := by
  have f := six_fine h
  obtain ⟨a, b, c, d, e, g, rfl⟩ := six l
  have f0 : Fine a := f 0 (by decide)
  have f1 : Fine b := f 1 (by decide)
  have f2 : Fine c := f 2 (by decide)
  have f3 : Fine d := f 3 (by decide)
  show [shB (shB a k) (-k), shB (shB b (-k)) (- -k), shB (shB c k) (-k), shB (shB d (-k)) (- -k), e, g] = [a, b, c, d, e, g]
  rw [shB_back f0 hk, shB_back f1 (in_neg hk), shB_back f2 hk, shB_back f3 (in_neg hk)]
/-- points, so much later. -/
theorem keptR_hi {a b x k : Int} : keptR (a + k * b) b 0 1 (x + 2 * k) = keptR a b 0 1 x := by
  unfold keptR
  have e : bS (x + 2 * k) = bS x := by unfold bS; exact decide_eq_decide.2 (by omega)
  have e2 : (x + 2 * k) / 2 = x / 2 + k := by omega
  have u : ∀ p q r : Int, ltB (p + r) (q + r) = ltB p q := fun p q r => by unfold ltB; exact decide_eq_decide.2 (by omega)
  rw [e, e2, show (a + k * b) * 1 - 0 * b = (a * 1 - 0 * b) + k * b by omega, show (x / 2 + k) * (b * 1) = x / 2 * (b * 1) + k * b by rw [Int.add_mul, Int.mul_one], u, u]
theorem keptR_lo {a b x k : Int} : keptR 0 1 (a + k * b) b (x + 2 * -k) = keptR 0 1 a b x := by
  unfold keptR
  have e : bS (x + 2 * -k) = bS x := by unfold bS; exact decide_eq_decide.2 (by omega)
  have e2 : (x + 2 * -k) / 2 = x / 2 + -k := by omega
  have u : ∀ p q r : Int, ltB (p + r) (q + r) = ltB p q := fun p q r => by unfold ltB; exact decide_eq_decide.2 (by omega)
  rw [e, e2, show 0 * b - (a + k * b) * 1 = (0 * b - a * 1) + -(k * b) by omega, show (x / 2 + -k) * (1 * b) = x / 2 * (1 * b) + -(k * b) by rw [Int.add_mul, Int.one_mul, Int.neg_mul], u, u]
theorem keptR_both {a b c d x k : Int} : keptR (a + k * b) b (c + k * d) d x = keptR a b c d x := by
  unfold keptR
  rw [show (a + k * b) * d - (c + k * d) * b = a * d - c * b by rw [Int.add_mul, Int.add_mul, Int.mul_assoc k b d, Int.mul_assoc k d b, Int.mul_comm b d]; omega]
theorem shB_none {x k : Int} (hx : Fine x) (hk : In k) : shB x k = 9223372036854775807 ↔ x = 9223372036854775807 := by
  unfold shB
  unfold Fine at hx
  unfold In at hk
  split <;> omega
theorem kp_hi {a b x k : Int} (h : MayR a b) (h' : MayR (a + k * b) b) (hx : Fine x) (hk : In k) (hy : Fine (shB x k)) : kpV (a + k * b) b 0 1 (shB x k) = kpV a b 0 1 x := by
  rw [Bool.eq_iff_iff, kp_kB h' zero_may hy, kp_kB h zero_may hx, shB_none hx hk]
  unfold shB
  by_cases e : x = 9223372036854775807
  · exact ⟨fun _ => .inl e, fun _ => .inl e⟩
  · rw [if_neg e, keptR_hi]
theorem kp_lo {a b x k : Int} (h : MayR a b) (h' : MayR (a + k * b) b) (hx : Fine x) (hk : In k) (hy : Fine (shB x (-k))) : kpV 0 1 (a + k * b) b (shB x (-k)) = kpV 0 1 a b x := by
  rw [Bool.eq_iff_iff, kp_kB zero_may h' hy, kp_kB zero_may h hx, shB_none hx (in_neg hk)]
  unfold shB
  by_cases e : x = 9223372036854775807
  · exact ⟨fun _ => .inl e, fun _ => .inl e⟩
  · rw [if_neg e, keptR_lo]
theorem kp_two {a b c d x k : Int} (h : MayR a b) (h' : MayR (a + k * b) b) (m : MayR c d) (m' : MayR (c + k * d) d) (hx : Fine x) : kpV (a + k * b) b (c + k * d) d x = kpV a b c d x := by
  rw [Bool.eq_iff_iff, kp_kB h' m' hx, kp_kB h m hx, keptR_both]
/-- both times, so much later, are in the zone so much later just if they are in the zone. -/
theorem later_kept {z : List Int} {k a b c d : Int} (hz : MayD 3 (fullT z)) (hk : In k) (hm : MayD 3 (fullT (laterT z k))) (h : MayR a b) (h' : MayR (a + k * b) b) (m : MayR c d) (m' : MayR (c + k * d) d) :
    keptAll 3 (fullT (laterT z k)) [(0, 1), (a + k * b, b), (c + k * d, d)] ↔ keptAll 3 (fullT z) [(0, 1), (a, b), (c, d)] := by
  have f := six_fine hz
  have g := six_fine hm
  rw [kept_six h' m', kept_six h m]
  show kpV (a + k * b) b 0 1 (shB (z[0]?.getD 0) k) = true ∧ kpV 0 1 (a + k * b) b (shB (z[1]?.getD 0) (-k)) = true ∧ kpV (c + k * d) d 0 1 (shB (z[2]?.getD 0) k) = true ∧ kpV 0 1 (c + k * d) d (shB (z[3]?.getD 0) (-k)) = true ∧ kpV (c + k * d) d (a + k * b) b (z[4]?.getD 0) = true ∧ kpV (a + k * b) b (c + k * d) d (z[5]?.getD 0) = true ↔ _
  rw [kp_hi h h' (f 0 (by decide)) hk (g 0 (by decide)), kp_lo h h' (f 1 (by decide)) hk (g 1 (by decide)), kp_hi m m' (f 2 (by decide)) hk (g 2 (by decide)), kp_lo m m' (f 3 (by decide)) hk (g 3 (by decide)), kp_two m m' h h' (f 4 (by decide)), kp_two h h' m m' (f 5 (by decide))]
end Go.Proofs.YtkfnjdmjojodhaaDoor.win

namespace Go.Proofs.YtkfnjdmjojodhaaDoor.way
set_option linter.unusedVariables false
set_option linter.unusedSimpArgs false

/-- a closed table with one weight more. -/
theorem put_tri {D : Tab} {n x y : Nat} (t : Tri D n) {v : B} (g : le one (ad (D y x) v)) : Tri (fun i j => mn (D i j) (ad (ad (D i x) v) (D y j))) n := by
  intro m hm i j
  have hr : ∀ i j, le (mn (D i j) (ad (ad (D i x) v) (D y j))) (ad (ad (D i x) v) (D y j)) := fun i j => mn_right _ _
  have hl : ∀ i j, le (mn (D i j) (ad (ad (D i x) v) (D y j))) (D i j) := fun i j => mn_left _ _
  rcases mn_is (D i m) (ad (ad (D i x) v) (D y m)) with e | e <;> rcases mn_is (D m j) (ad (ad (D m x) v) (D y j)) with f | f <;> (show le _ (ad (mn _ _) (mn _ _))) <;> rw [e, f]
  · exact le_trans (hl i j) (t m hm i j)
  · refine le_trans (hr i j) ?_
    rw [← ad_assoc, ← ad_assoc]
    exact ad_mono (ad_mono (t m hm i x) (le_refl _)) (le_refl _)
  · refine le_trans (hr i j) ?_
    rw [ad_assoc (ad (D i x) v)]
    exact ad_mono (le_refl _) (t m hm y j)
  · refine le_trans (hr i j) ?_
    rw [ad_assoc (ad (D i x) v)]
    refine ad_mono (le_refl _) ?_
    rw [← ad_assoc, ← ad_assoc]
    refine le_ad_left ?_
    exact le_trans g (ad_mono (t m hm y x) (le_refl _))
theorem F_put {D : Tab} {n x y : Nat} (hx : x < n) (hy : y < n) (t : Tri D n) (p : Pos D) (hd : ∀ i, i < n → le (D i i) one) (o : ∀ i, ¬ i < n → ∀ j, D i j = none) {v : B} (g : Good (put D x y v) n) (i j : Nat) : F (put D x y v) n i j = mn (D i j) (ad (ad (D i x) v) (D y j)) := by
  have g1 := (put_iff hx hy t p hd o v).1 g
  have t' := put_tri t g1
  have hl : ∀ i j, le (F (put D x y v) n i j) (D i j) := fun i j => le_trans (F_le _ _ _ _) (put_le _ _ _ _ _ _)
  refine le_antisymm (le_mn (hl i j) ?_) ?_
  · refine le_trans (good_tri g x hx i j) (le_trans (ad_mono (le_refl _) (good_tri g y hy x j)) ?_)
    rw [← ad_assoc]
    exact ad_mono (ad_mono (hl i x) (le_trans (F_le _ _ _ _) (put_at _ _ _ _))) (hl y j)
  · have hp : ∀ i j, le (mn (D i j) (ad (ad (D i x) v) (D y j))) (put D x y v i j) := le_put (e := fun i j => mn (D i j) (ad (ad (D i x) v) (D y j))) (fun i j => mn_left _ _) (by
      have := ad_mono (ad_mono (hd x hx) (le_refl v)) (hd y hy)
      rw [one_ad, ad_one] at this
      exact le_trans (mn_right _ _) this)
    have := F_mono hp n i j
    rwa [F_id t' n (Nat.le_refl _)] at this
/-- two weights more, one the other way round of the other. -/
def win2 (D : Tab) (H L : B) : Tab := put (put D 2 0 H) 0 2 L
section
variable {D : Tab} (t : Tri D 3) (p : Pos D) (hd : ∀ i, i < 3 → D i i = one) (o : ∀ i, ¬ i < 3 → ∀ j, D i j = none)
include t p hd o
theorem win2_F {H L : B} (g : Good (win2 D H L) 3) (i j : Nat) :
    F (win2 D H L) 3 i j = mn (mn (D i j) (ad (ad (D i 2) H) (D 0 j))) (ad (ad (mn (D i 0) (ad (D i 2) H)) L) (mn (D 2 j) (ad H (D 0 j)))) ∧ le one (ad H L) := by
  have hd' : ∀ i, i < 3 → le (D i i) one := fun i hi => by rw [hd i hi]; exact le_refl _
  have g1 : Good (put D 2 0 H) 3 := good_mono (put_le _ _ _ _) g
  have e1 := F_put (by decide) (by decide) t p hd' o g1
  have o1 : ∀ i, ¬ i < 3 → ∀ j, F (put D 2 0 H) 3 i j = none := fun i hi j => by rw [e1, o i hi, o i hi, none_ad, none_ad]; exact mn_none _
  have g2 : Good (put (F (put D 2 0 H) 3) 0 2 L) 3 := (put_good 0 2 L).2 g
  have d1 : ∀ i, i < 3 → le (F (put D 2 0 H) 3 i i) one := fun i hi => le_trans (F_le _ _ _ _) (le_trans (put_le _ _ _ _ _ _) (hd' i hi))
  have e2 := F_put (by decide) (by decide) (good_tri g1) (g1 3 (Nat.le_refl _)) d1 o1 g2 i j
  have e3 := (put_iff (x := 0) (y := 2) (by decide) (by decide) (good_tri g1) (g1 3 (Nat.le_refl _)) d1 o1 L).1 g2
  constructor
  · have e4 : F (put (F (put D 2 0 H) 3) 0 2 L) 3 i j = F (win2 D H L) 3 i j := put_F 0 2 L g i j
    rw [← e4, e2, e1, e1, e1, hd 0 (by decide), hd 2 (by decide), ad_one, one_ad]
  · refine le_trans e3 (ad_mono ?_ (le_refl _))
    exact le_trans (F_le _ _ _ _) (put_at _ _ _ _)
/-- where the zone has no bound, a wider window's bound is one of the narrower ones'. -/
theorem win2_wide {H L H' L' : B} (g : Good (win2 D H L) 3) (gb : Good (win2 D H' L) 3) (gx : Good (win2 D H L') 3) (h' : H' ≠ none) {i j : Nat} (hD : D i j = none) :
    F (win2 D H L) 3 i j = none ∨ F (win2 D H L) 3 i j = F (win2 D H L') 3 i j ∨ F (win2 D H L) 3 i j = F (win2 D H' L) 3 i j := by
  obtain ⟨e, k⟩ := win2_F t p hd o g i j
  obtain ⟨eb, kb⟩ := win2_F t p hd o gb i j
  obtain ⟨ex, kx⟩ := win2_F t p hd o gx i j
  have t2 := t 2 (by decide) i j
  have t0 := t 0 (by decide) i j
  rw [hD] at e eb ex t2 t0
  rw [e, eb, ex]
  clear e eb ex
  cases h2 : D i 2 with
  | none =>
    simp only [h2, none_ad, ad_none, mn_none] at *
    cases h0 : D i 0 with
    | none => left; simp only [none_ad, mn_none]
    | some a =>
      have z : D 0 j = none := by
        cases hz : D 0 j with
        | none => rfl
        | some b => rw [h0, hz, ad_some] at t0; exact t0.elim
      right; right
      simp only [z, ad_none]
  | some a =>
    have z2 : D 2 j = none := by
      cases hz : D 2 j with
      | none => rfl
      | some b => rw [h2, hz, ad_some] at t2; exact t2.elim
    cases z0 : D 0 j with
    | none => left; simp only [z2, ad_none, mn_none]
    | some c =>
      have h0 : D i 0 = none := by
        cases hz : D i 0 with
        | none => rfl
        | some b => rw [z0, hz, ad_some] at t0; exact t0.elim
      have key : ∀ K : B, le one (ad H K) → mn (mn none (ad (ad (some a) H) (some c))) (ad (ad (mn none (ad (some a) H)) K) (mn none (ad H (some c)))) = ad (ad (some a) H) (some c) := fun K hK => by
        rw [mn_none, mn_none, mn_none]
        refine mn_eq_left ?_
        rw [ad_assoc (ad (some a) H), ← ad_assoc K, ad_comm K]
        exact ad_mono (le_refl _) (le_ad_left hK)
      right; left
      rw [h0, z2, key L k, key L' kx]
end
end Go.Proofs.YtkfnjdmjojodhaaDoor.way
