/-
  Zones with bounds more: a table closed ahead of what it has in common with another one turns nothing; each theorem names its conditions.
-/
import Derived.Test.YtcaoooddmmhieaaDoorZoneA
import Derived.Test.YtcaoooddmmhieaaDoorProjA
namespace Go.Proofs.YtcaoooddmmhieaaDoor.way
set_option linter.unusedVariables false

/-- closed ahead, or not: with another table's weights the same comes. -/
theorem both_good {d e : Tab} {n : Nat} : Good (both (F d n) e) n ↔ Good (both d e) n := by
  refine ⟨good_mono fun i j => mn_mono (F_le d n i j) (le_refl _), fun h => good_mono (F_both_le d e n) (good_F h)⟩
theorem both_F {d e : Tab} {n : Nat} (h : Good (both d e) n) (i j : Nat) : F (both (F d n) e) n i j = F (both d e) n i j := by
  refine le_antisymm (F_mono (fun i j => mn_mono (F_le d n i j) (le_refl _)) n i j) ?_
  have := F_mono (F_both_le d e n) n i j
  rwa [F_self h] at this
end Go.Proofs.YtcaoooddmmhieaaDoor.way

namespace Go.Proofs.YtcaoooddmmhieaaDoor.win
open way num rat dbm Go.Proofs.YtcaoooddmmhieaaDoor.tight Go.Proofs.YtcaoooddmmhieaaDoor.tkept Go.Proofs.YtcaoooddmmhieaaDoor.incl Go.Proofs.YtcaoooddmmhieaaDoor.zone
open bound hiding up
set_option linter.unusedVariables false
set_option linter.unusedSimpArgs false
set_option linter.unusedSectionVars false

/-- what two have in common is the same, the first one closed ahead or not. -/
theorem les_cl {n : Int} {ts us : List Int} (ht : MayD n ts) (hu : MayD n us) (tt : Tops ts) (tu : Tops us) (ho : OkD n ts) (hm : MayD n (clT n ts)) :
    (OkD n (lesT (clT n ts) us) ↔ OkD n (lesT ts us)) ∧ (OkD n (lesT ts us) → clT n (lesT (clT n ts) us) = clT n (lesT ts us)) := by
  obtain ⟨m, rfl, h0, hn, hl⟩ := may_nat ht
  have hul := may_len hu
  have hcl : (clT m ts).length = m * m := (clT_length ho).trans hl
  have tc : Tops (clT m ts) := clT_tops tt
  have hb : beg m (clT m ts) = F (beg m ts) m := by
    funext i j
    rw [clT_nat h0]
    exact beg_closed h0 hn hl tt ho i j
  have hlc : (lesT (clT m ts) us).length = m * m := (lesT_length _ _).trans hcl
  have hll : (lesT ts us).length = m * m := (lesT_length _ _).trans hl
  have ok : OkD m (lesT (clT m ts) us) ↔ OkD m (lesT ts us) := by
    rw [okD_good h0 hn hlc (lesT_tops tc us) (lesT_may hm hu), okD_good h0 hn hll (lesT_tops tt us) (lesT_may ht hu), beg_les h0 hn hcl hul tc tu, beg_les h0 hn hl hul tt tu, hb]
    exact way.both_good
  refine ⟨ok, fun h => ?_⟩
  have k := ok.2 h
  have g := clo_good h0 hn hll (lesT_tops tt us) h
  have e1 := wts_closed h0 hn hlc (lesT_tops tc us) k
  have e2 := wts_closed h0 hn hll (lesT_tops tt us) h
  rw [beg_les h0 hn hcl hul tc tu, hb] at e1
  rw [beg_les h0 hn hl hul tt tu] at e2 g
  refine list_ext h0 ((clT_length k).trans hlc) ((clT_length h).trans hll) fun i j hi hj => cod_inj ?_
  rw [← wts_in (us := clT m (lesT (clT m ts) us)) hi hj, ← wts_in (us := clT m (lesT ts us)) hi hj, e1, e2]
  exact way.both_F g i j
/-- both closed ahead. -/
theorem les_two {n : Int} {ts us : List Int} (ht : MayD n ts) (hu : MayD n us) (tt : Tops ts) (tu : Tops us) (ho : OkD n ts) (hm : MayD n (clT n ts)) (hp : OkD n us) (hq : MayD n (clT n us)) :
    (OkD n (lesT (clT n ts) (clT n us)) ↔ OkD n (lesT ts us)) ∧ (OkD n (lesT ts us) → clT n (lesT (clT n ts) (clT n us)) = clT n (lesT ts us)) := by
  have hc : ∀ a b : List Int, a.length = b.length → lesT a b = lesT b a := fun a b e => lesT_comm e
  have l1 : ts.length = us.length := by
    obtain ⟨m, rfl, h0, hn, hl⟩ := may_nat ht
    exact hl.trans (may_len hu).symm
  have l2 : (clT n ts).length = ts.length := clT_length ho
  have l3 : (clT n us).length = us.length := clT_length hp
  have a := les_cl ht (us := clT n us) hq tt (clT_tops tu) ho hm
  have b := les_cl hu (us := ts) ht tu tt hp hq
  rw [hc _ _ (l3.trans l1.symm), hc _ _ l1.symm] at b
  exact ⟨a.1.trans b.1, fun h => (a.2 (b.1.2 h)).trans (b.2 h)⟩

/-- which of two is had in common first turns nothing. -/
theorem les_swap (ts us vs : List Int) : lesT (lesT ts us) vs = lesT (lesT ts vs) us := by
  refine list_at (by simp only [lesT_length]) fun p hp => ?_
  simp only [lesT_length] at hp
  rw [lesT_at _ _ (by rw [lesT_length]; exact hp), lesT_at _ _ hp, lesT_at _ _ (by rw [lesT_length]; exact hp), lesT_at _ _ hp, lsr_right]
section
variable {n : Int} {ts us vs : List Int} (ht : MayD n ts) (hu : MayD n us) (hv : MayD n vs) (tt : Tops ts) (tu : Tops us) (tv : Tops vs)
include ht hu hv tt tu tv
theorem cut_swap (h : OkD n (lesT ts us)) (k : OkD n (lesT ts vs)) (hm : MayD n (clT n (lesT ts us))) (km : MayD n (clT n (lesT ts vs))) :
    (OkD n (lesT (clT n (lesT ts us)) vs) ↔ OkD n (lesT (clT n (lesT ts vs)) us)) ∧ (OkD n (lesT (clT n (lesT ts us)) vs) → clT n (lesT (clT n (lesT ts us)) vs) = clT n (lesT (clT n (lesT ts vs)) us)) := by
  have a := les_cl (lesT_may ht hu) hv (lesT_tops tt us) tv h hm
  have b := les_cl (lesT_may ht hv) hu (lesT_tops tt vs) tu k km
  have e := les_swap ts us vs
  refine ⟨by rw [a.1, b.1, e], fun o => ?_⟩
  have o1 := a.1.1 o
  rw [a.2 o1, e, b.2 (by rwa [e] at o1)]
/-- cut by one to nothing: to nothing too behind the other one. -/
theorem cut_none (h : ¬ OkD n (lesT ts us)) (k : OkD n (lesT ts vs)) (km : MayD n (clT n (lesT ts vs))) : ¬ OkD n (lesT (clT n (lesT ts vs)) us) := fun o => h <| by
  have b := les_cl (lesT_may ht hv) hu (lesT_tops tt vs) tu k km
  have o1 := b.1.1 o
  rw [← les_swap] at o1
  exact les_left (lesT_may ht hu) hv (lesT_tops tt us) tv o1
end

/-! what is cut out of a zone -/
section
variable {z w : List Int} (tz : Tops z) (hz : MayD 3 (fullT z)) (hw : MayD 3 (fullT w))
include tz hz hw
theorem cut_kept {m : List Int} (ho : OkD 3 (lesT (fullT z) (fullT w))) (hm : MayD 3 (clT 3 (lesT (fullT z) (fullT w)))) (e : m = shortT (clT 3 (lesT (fullT z) (fullT w)))) :
    MayZ m ∧ Tops m ∧ ∀ x y u v, MayR x y → MayR u v → (keptAll 3 (fullT m) [(0, 1), (x, y), (u, v)] ↔ keptAll 3 (fullT z) [(0, 1), (x, y), (u, v)] ∧ keptAll 3 (fullT w) [(0, 1), (x, y), (u, v)]) := by
  have tl := lesT_tops (full_tops tz) (fullT w)
  obtain ⟨e1, e2⟩ := of_may (lesT_length _ _) tl ho hm
  rw [← e] at e1 e2
  refine ⟨e2, ?_, fun x y u v hx hu => ?_⟩
  · rw [e]; exact short_tops (clT_tops tl)
  · have hq := may_three hx hu
    have k1 := tkept.kept_cl (n := 3) (L := lesT (fullT z) (fullT w)) (by decide) (by decide) (lesT_length _ _) tl ho hm hq rfl
    have k2 := tkept.kept_les (n := 3) (ts := fullT z) (us := fullT w) (by decide) rfl rfl hz hw hq rfl
    rw [e1]
    exact k1.trans k2
theorem cut_out (ho : ¬ OkD 3 (lesT (fullT z) (fullT w))) : ∀ x y u v, MayR x y → MayR u v → ¬ (keptAll 3 (fullT z) [(0, 1), (x, y), (u, v)] ∧ keptAll 3 (fullT w) [(0, 1), (x, y), (u, v)]) := fun x y u v hx hu h => by
  have hq := may_three hx hu
  exact tkept.kept_no (n := 3) (L := lesT (fullT z) (fullT w)) (by decide) (by decide) (lesT_length _ _) (lesT_tops (full_tops tz) _) (lesT_may hz hw) ho hq rfl ((tkept.kept_les (n := 3) (ts := fullT z) (us := fullT w) (by decide) rfl rfl hz hw hq rfl).2 h)
end
/-- what cuts: a span of u less t; a span of u. -/
def diffZ (s : Sp) : List Int := [9223372036854775807, 9223372036854775807, 9223372036854775807, 9223372036854775807, hiS s, loS s]
def lateZ (s : Sp) : List Int := [9223372036854775807, 9223372036854775807, hiS s, loS s, 9223372036854775807, 9223372036854775807]
theorem none_fine : Fine 9223372036854775807 := .inl rfl
theorem diff_may {s : Sp} (h : MayP s) : MayD 3 (fullT (diffZ s)) := full_may fun i hi => by
  rcases (by omega : i = 0 ∨ i = 1 ∨ i = 2 ∨ i = 3 ∨ i = 4 ∨ i = 5) with rfl | rfl | rfl | rfl | rfl | rfl
  · exact none_fine
  · exact none_fine
  · exact none_fine
  · exact none_fine
  · exact hi_fine h
  · exact lo_fine h
theorem late_may {s : Sp} (h : MayP s) : MayD 3 (fullT (lateZ s)) := full_may fun i hi => by
  rcases (by omega : i = 0 ∨ i = 1 ∨ i = 2 ∨ i = 3 ∨ i = 4 ∨ i = 5) with rfl | rfl | rfl | rfl | rfl | rfl
  · exact none_fine
  · exact none_fine
  · exact hi_fine h
  · exact lo_fine h
  · exact none_fine
  · exact none_fine
theorem diff_tops {s : Sp} (h : MayP s) : Tops (diffZ s) := by
  have h1 := fine_le (hi_fine h)
  have h2 := fine_le (lo_fine h)
  intro x hx
  unfold diffZ at hx
  simp only [List.mem_cons, List.not_mem_nil, or_false] at hx
  omega
theorem late_tops {s : Sp} (h : MayP s) : Tops (lateZ s) := by
  have h1 := fine_le (hi_fine h)
  have h2 := fine_le (lo_fine h)
  intro x hx
  unfold lateZ at hx
  simp only [List.mem_cons, List.not_mem_nil, or_false] at hx
  omega
theorem kp_none {a b c d : Int} (h : MayR a b) (k : MayR c d) : kpV a b c d 9223372036854775807 = true := (kp_kB h k none_fine).2 (.inl rfl)
theorem diff_kept {s : Sp} (hs : MayP s) {a b c d p q : Int} (h : MayR a b) (k : MayR c d) (m : MayR p q) (e : p * (d * b) = (c * b - a * d) * q) :
    keptAll 3 (fullT (diffZ s)) [(0, 1), (a, b), (c, d)] ↔ inS s p q = true := by
  rw [kept_six h k]
  show kpV a b 0 1 9223372036854775807 = true ∧ kpV 0 1 a b 9223372036854775807 = true ∧ kpV c d 0 1 9223372036854775807 = true ∧ kpV 0 1 c d 9223372036854775807 = true ∧ kpV c d a b (hiS s) = true ∧ kpV a b c d (loS s) = true ↔ _
  rw [(kp_diff h k m (hi_fine hs) e).1, (kp_diff h k m (lo_fine hs) e).2, ← in_span hs m]
  exact ⟨fun ⟨_, _, _, _, x, y⟩ => ⟨x, y⟩, fun ⟨x, y⟩ => ⟨kp_none h zero_may, kp_none zero_may h, kp_none k zero_may, kp_none zero_may k, x, y⟩⟩
theorem late_kept {s : Sp} (hs : MayP s) {a b c d : Int} (h : MayR a b) (k : MayR c d) : keptAll 3 (fullT (lateZ s)) [(0, 1), (a, b), (c, d)] ↔ inS s c d = true := by
  rw [kept_six h k]
  show kpV a b 0 1 9223372036854775807 = true ∧ kpV 0 1 a b 9223372036854775807 = true ∧ kpV c d 0 1 (hiS s) = true ∧ kpV 0 1 c d (loS s) = true ∧ kpV c d a b 9223372036854775807 = true ∧ kpV a b c d 9223372036854775807 = true ↔ _
  rw [← in_span hs k]
  exact ⟨fun ⟨_, _, x, y, _, _⟩ => ⟨x, y⟩, fun ⟨x, y⟩ => ⟨kp_none h zero_may, kp_none zero_may h, x, y, kp_none k h, kp_none h k⟩⟩
/-- a window's span of u: above the first number, at most the second one. -/
def winS (f t : Int) : Sp := (f, true, t, false, false)
theorem win_may {f t : Int} (hf : In f) (ht : In t) (h : f ≤ t) : MayP (winS f t) := ⟨hf, .inr ⟨rfl, ht, h⟩⟩
/-- windows that follow one another share nothing. -/
theorem win_apart {f t g u a b : Int} (hb : 0 < b) (htg : t ≤ g) (h : inS (winS f t) a b = true) (k : inS (winS g u) a b = true) : False := by
  unfold inS at h k
  rw [Bool.and_eq_true] at h k
  have h2 : decide (a ≤ t * b) = true := h.2
  have k1 : decide (g * b < a) = true := k.1
  have h3 := of_decide_eq_true h2
  have k3 := of_decide_eq_true k1
  have := Int.mul_le_mul_of_nonneg_right htg (Int.le_of_lt hb)
  omega
/-- what is answered for a zone that may be, cut by another one's bounds. -/
def CutR (z w out : List Int) (f : Int) : Prop :=
  (¬ OkD 3 (lesT (fullT z) (fullT w)) ∧ out = zero6 ∧ f = 6) ∨ (OkD 3 (lesT (fullT z) (fullT w)) ∧ ¬ MayD 3 (clT 3 (lesT (fullT z) (fullT w))) ∧ out = zero6 ∧ f = 8) ∨
    (OkD 3 (lesT (fullT z) (fullT w)) ∧ MayD 3 (clT 3 (lesT (fullT z) (fullT w))) ∧ out = shortT (clT 3 (lesT (fullT z) (fullT w))) ∧ f = 0)
theorem cut_good {z w out : List Int} (tz : Tops z) (hz : MayD 3 (fullT z)) (hw : MayD 3 (fullT w)) (h : CutR z w out 0) :
    MayZ out ∧ Tops out ∧ fullT out = clT 3 (lesT (fullT z) (fullT w)) ∧ OkD 3 (lesT (fullT z) (fullT w)) ∧ ∀ x y u v, MayR x y → MayR u v → (keptAll 3 (fullT out) [(0, 1), (x, y), (u, v)] ↔ keptAll 3 (fullT z) [(0, 1), (x, y), (u, v)] ∧ keptAll 3 (fullT w) [(0, 1), (x, y), (u, v)]) := by
  rcases h with ⟨_, _, e⟩ | ⟨_, _, _, e⟩ | ⟨ho, hm, e, _⟩
  · cases e
  · cases e
  · obtain ⟨a, b, c⟩ := cut_kept tz hz hw ho hm e
    refine ⟨a, b, ?_, ho, c⟩
    rw [e]
    exact (of_may (lesT_length _ _) (lesT_tops (full_tops tz) _) ho hm).1
/-- a span first, or a window first. -/
theorem cut_order {z s v a b : List Int} (tz : Tops z) (ts : Tops s) (tv : Tops v) (hz : MayD 3 (fullT z)) (hs : MayD 3 (fullT s)) (hv : MayD 3 (fullT v)) (h : CutR z s a 0) (k : CutR z v b 0) (x y : List Int) (f g : Int) (hx : CutR a v x f) (hy : CutR b s y g) : x = y ∧ f = g := by
  obtain ⟨_, _, ea, oa, _⟩ := cut_good tz hz hs h
  obtain ⟨_, _, eb, ob, _⟩ := cut_good tz hz hv k
  have ma : MayD 3 (clT 3 (lesT (fullT z) (fullT s))) := by rcases h with ⟨_, _, e⟩ | ⟨_, _, _, e⟩ | ⟨_, hm, _, _⟩ <;> first | exact hm | cases e
  have mb : MayD 3 (clT 3 (lesT (fullT z) (fullT v))) := by rcases k with ⟨_, _, e⟩ | ⟨_, _, _, e⟩ | ⟨_, hm, _, _⟩ <;> first | exact hm | cases e
  obtain ⟨o, e⟩ := cut_swap hz hs hv (full_tops tz) (full_tops ts) (full_tops tv) oa ob ma mb
  unfold CutR at hx hy
  rw [ea] at hx
  rw [eb] at hy
  rcases hx with ⟨o1, x1, f1⟩ | ⟨o1, m1, x1, f1⟩ | ⟨o1, m1, x1, f1⟩ <;> rcases hy with ⟨o2, y1, g1⟩ | ⟨o2, m2, y1, g1⟩ | ⟨o2, m2, y1, g1⟩
  · exact ⟨x1.trans y1.symm, f1.trans g1.symm⟩
  · exact (o1 (o.2 o2)).elim
  · exact (o1 (o.2 o2)).elim
  · exact (o2 (o.1 o1)).elim
  · exact ⟨x1.trans y1.symm, f1.trans g1.symm⟩
  · rw [e o1] at m1; exact (m1 m2).elim
  · exact (o2 (o.1 o1)).elim
  · rw [e o1] at m1; exact (m2 m1).elim
  · rw [x1, y1, e o1]; exact ⟨rfl, f1.trans g1.symm⟩
/-- a lesser zone, cut by the same. -/
theorem cut_less {l z w : List Int} (tl : Tops l) (tz : Tops z) (hz : MayD 3 (fullT z)) (hw : MayD 3 (fullT w)) (hle : ∀ p, p < 9 → (fullT l)[p]?.getD 0 ≤ (fullT z)[p]?.getD 0) (h : OkD 3 (lesT (fullT l) (fullT w))) :
    OkD 3 (lesT (fullT z) (fullT w)) ∧ ∀ p, p < 9 → (clT 3 (lesT (fullT l) (fullT w)))[p]?.getD 0 ≤ (clT 3 (lesT (fullT z) (fullT w)))[p]?.getD 0 := by
  obtain ⟨a, b⟩ := cl_less (n := 3) h (lesT_may hz hw) (lesT_tops (full_tops tz) _) (lesT_tops (full_tops tl) _) fun i j => by
    show (lesT (fullT l) (fullT w))[i * 3 + j]?.getD 0 ≤ (lesT (fullT z) (fullT w))[i * 3 + j]?.getD 0
    by_cases hp : i * 3 + j < 9
    · rw [lesT_at _ _ (show i * 3 + j < (fullT l).length from hp), lesT_at _ _ (show i * 3 + j < (fullT z).length from hp)]
      have := hle _ hp
      unfold lsr
      repeat' split <;> omega
    · rw [List.getElem?_eq_none (by rw [lesT_length]; exact Nat.not_lt.1 hp), List.getElem?_eq_none (by rw [lesT_length]; exact Nat.not_lt.1 hp)]
      exact Int.le_refl _
  exact ⟨a, fun p hp => b p (by rw [lesT_length]; exact hp)⟩
end Go.Proofs.YtcaoooddmmhieaaDoor.win
