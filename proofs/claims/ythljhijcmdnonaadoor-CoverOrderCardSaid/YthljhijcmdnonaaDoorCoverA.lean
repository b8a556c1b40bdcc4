
/-
  What zones cover, pure: zones in their order, each once; what is wanted of some; a zone that some cover; each theorem names its conditions.
-/
import Derived.Test.YthljhijcmdnonaaDoorMinusA
namespace Go.Proofs.YthljhijcmdnonaaDoor.cover
open way num rat dbm Go.Proofs.YthljhijcmdnonaaDoor.tight Go.Proofs.YthljhijcmdnonaaDoor.tkept Go.Proofs.YthljhijcmdnonaaDoor.incl Go.Proofs.YthljhijcmdnonaaDoor.zone Go.Proofs.YthljhijcmdnonaaDoor.win Go.Proofs.YthljhijcmdnonaaDoor.minus
open bound hiding up
set_option linter.unusedVariables false
set_option linter.unusedSimpArgs false
set_option linter.unusedSectionVars false

/-- zones in their order, each once. -/
def Srt (s : List (List Int)) : Prop := s.Pairwise fun x y => cmpL x y < 0
theorem cmp_lt_trans {a b c : List Int} (h : cmpL a b < 0) (k : cmpL b c < 0) : cmpL a c < 0 := by
  have t := cmp_trans a b c (by omega) (by omega)
  rcases cmp_in a c with e | e | e
  · omega
  · have := (cmp_zero a c).1 e
    subst this
    have := cmp_back a b
    omega
  · omega
theorem cmp_self (a : List Int) : cmpL a a = 0 := (cmp_zero a a).2 rfl
theorem srt_same : ∀ {s t : List (List Int)}, Srt s → Srt t → (∀ x, x ∈ s ↔ x ∈ t) → s = t
  | [], [], _, _, _ => rfl
  | [], y :: t, _, _, h => by have := (h y).2 List.mem_cons_self; cases this
  | x :: s, [], _, _, h => by have := (h x).1 List.mem_cons_self; cases this
  | x :: s, y :: t, hs, ht, h => by
    obtain ⟨hx, hs'⟩ := List.pairwise_cons.1 hs
    obtain ⟨hy, ht'⟩ := List.pairwise_cons.1 ht
    have e : x = y := by
      rcases List.mem_cons.1 ((h x).1 List.mem_cons_self) with e | e
      · exact e
      rcases List.mem_cons.1 ((h y).2 List.mem_cons_self) with k | k
      · exact k.symm
      have h1 := hx y k
      have h2 := hy x e
      have := cmp_back x y
      omega
    subst e
    congr 1
    refine srt_same hs' ht' fun z => ⟨fun hz => ?_, fun hz => ?_⟩
    · rcases List.mem_cons.1 ((h z).1 (List.mem_cons_of_mem _ hz)) with e | e
      · have h1 := hx z hz
        rw [e, cmp_self] at h1
        omega
      · exact e
    · rcases List.mem_cons.1 ((h z).2 (List.mem_cons_of_mem _ hz)) with e | e
      · have h1 := hy z hz
        rw [e, cmp_self] at h1
        omega
      · exact e
theorem srt_nodup {s : List (List Int)} (h : Srt s) : s.Nodup := h.imp fun {x y} k e => by
  subst e
  rw [cmp_self] at k
  omega
theorem srt_sub {s t : List (List Int)} (h : Srt s) (k : t.Sublist s) : Srt t := List.Pairwise.sublist k h
/-- without twins, no longer than that out of which it is. -/
theorem nodup_len : ∀ {s l : List (List Int)}, s.Nodup → (∀ x, x ∈ s → x ∈ l) → s.length ≤ l.length
  | [], l, _, _ => Nat.zero_le _
  | x :: s, l, d, h => by
    obtain ⟨dx, d⟩ := List.nodup_cons.1 d
    have m := h x List.mem_cons_self
    have := nodup_len (l := l.erase x) d fun y hy => by
      have : y ≠ x := fun e => dx (e ▸ hy)
      exact (List.mem_erase_of_ne this).2 (h y (List.mem_cons_of_mem _ hy))
    have e := List.length_erase_of_mem m
    have := List.length_pos_of_mem m
    rw [List.length_cons]
    omega
/-- put where it belongs, once. -/
def ins (z : List Int) : List (List Int) → List (List Int)
  | [] => [z]
  | y :: t => if cmpL z y < 0 then z :: y :: t else if cmpL z y = 0 then y :: t else y :: ins z t
theorem ins_mem (z : List Int) : ∀ (s : List (List Int)) (x : List Int), x ∈ ins z s ↔ x = z ∨ x ∈ s
  | [], x => by unfold ins; simp
  | y :: t, x => by
    unfold ins
    by_cases a : cmpL z y < 0
    · rw [if_pos a, List.mem_cons]
    rw [if_neg a]
    by_cases b : cmpL z y = 0
    · rw [if_pos b, (cmp_zero z y).1 b, List.mem_cons]
      exact ⟨fun h => .inr h, fun h => h.elim (fun e => .inl e) id⟩
    · rw [if_neg b, List.mem_cons, List.mem_cons, ins_mem z t x]
      exact ⟨fun h => h.elim (fun e => .inr (.inl e)) (fun h => h.elim .inl (fun e => .inr (.inr e))), fun h => h.elim (fun e => .inr (.inl e)) (fun h => h.elim .inl (fun e => .inr (.inr e)))⟩
theorem ins_srt (z : List Int) : ∀ {s : List (List Int)}, Srt s → Srt (ins z s)
  | [], _ => by unfold ins; exact List.pairwise_singleton _ _
  | y :: t, h => by
    obtain ⟨h1, h2⟩ := List.pairwise_cons.1 h
    unfold ins
    by_cases a : cmpL z y < 0
    · rw [if_pos a]
      refine List.pairwise_cons.2 ⟨fun x hx => ?_, h⟩
      rcases List.mem_cons.1 hx with e | e
      · rw [e]; exact a
      · exact cmp_lt_trans a (h1 x e)
    rw [if_neg a]
    by_cases b : cmpL z y = 0
    · rw [if_pos b]; exact h
    · rw [if_neg b]
      refine List.pairwise_cons.2 ⟨fun x hx => ?_, ins_srt z h2⟩
      rcases (ins_mem z t x).1 hx with e | e
      · rw [e]
        have := cmp_back z y
        rcases cmp_in z y with k | k | k <;> omega
      · exact h1 x e
/-- some zones in their order, each once. -/
def srt (l : List (List Int)) : List (List Int) := l.foldr ins []
theorem srt_mem : ∀ (l : List (List Int)) (x : List Int), x ∈ srt l ↔ x ∈ l
  | [], x => Iff.rfl
  | y :: l, x => by
    show x ∈ ins y (srt l) ↔ _
    rw [ins_mem, srt_mem l x, List.mem_cons]
theorem srt_is : ∀ (l : List (List Int)), Srt (srt l)
  | [] => List.Pairwise.nil
  | y :: l => ins_srt y (srt_is l)
theorem srt_len (l : List (List Int)) : (srt l).length ≤ l.length := nodup_len (srt_nodup (srt_is l)) fun x hx => (srt_mem l x).1 hx
theorem srt_eq {s : List (List Int)} (h : Srt s) {l : List (List Int)} (k : ∀ x, x ∈ s ↔ x ∈ l) : s = srt l := srt_same h (srt_is l) fun x => (k x).trans (srt_mem l x).symm
theorem srt_any {l m : List (List Int)} (h : ∀ x, x ∈ l ↔ x ∈ m) : srt l = srt m := srt_same (srt_is l) (srt_is m) fun x => ((srt_mem l x).trans (h x)).trans (srt_mem m x).symm

/-! a zone that some cover -/
theorem cnt_zero {l : List (List Int)} {p : Pt} : 0 < cnt l p.1 p.2.1 p.2.2.1 p.2.2.2 ↔ ∃ b, b ∈ l ∧ hasP b p = true := List.countP_pos_iff
theorem rest_nil {bs : List (List Int)} {a : List Int} {n : List (List Int)} (hb : ∀ b, b ∈ bs → Zo b) (ha : Zo a) (h : RestR bs [a] n 0) : n = [] ↔ ∀ p, MayQ p → hasP a p = true → ∃ b, b ∈ bs ∧ hasP b p = true := by
  have hl : ∀ z, z ∈ [a] → Zo z := fun z hz => by rw [List.mem_singleton.1 hz]; exact ha
  refine ⟨fun e p m k => ?_, fun q => ?_⟩
  · have c := rest_cnt m.1 m.2 bs hb hl h
    subst e
    by_cases z : 0 < cnt bs p.1 p.2.1 p.2.2.1 p.2.2.2
    · exact cnt_zero.1 z
    · rw [if_neg z, cnt_one, show hasB a p.1 p.2.1 p.2.2.1 p.2.2.2 = true from k, if_pos rfl] at c
      exact absurd (show (0 : Nat) = 1 from c) (by decide)
  · match n, h with
    | [], _ => rfl
    | z :: n, h =>
      obtain ⟨p, m, k⟩ := zo_point (rest_zo bs hb hl h z List.mem_cons_self)
      have c := rest_cnt m.1 m.2 bs hb hl h
      have pos : 0 < cnt (z :: n) p.1 p.2.1 p.2.2.1 p.2.2.2 := cnt_zero.2 ⟨z, List.mem_cons_self, k⟩
      by_cases y : 0 < cnt bs p.1 p.2.1 p.2.2.1 p.2.2.2
      · rw [if_pos y] at c; omega
      · rw [if_neg y] at c
        have : 0 < cnt [a] p.1 p.2.1 p.2.2.1 p.2.2.2 := by omega
        obtain ⟨b, hb1, hb2⟩ := cnt_zero.1 this
        rw [List.mem_singleton.1 hb1] at hb2
        exact (y (cnt_zero.2 (q p m hb2))).elim
/-- a point of what is left. -/
theorem rest_point {bs : List (List Int)} {a : List Int} {n : List (List Int)} (hb : ∀ b, b ∈ bs → Zo b) (ha : Zo a) (h : RestR bs [a] n 0) {z : List Int} (hz : z ∈ n) {p : Pt} (m : MayQ p) (k : hasP z p = true) : hasP a p = true ∧ ∀ b, b ∈ bs → hasP b p = false := by
  have hl : ∀ z, z ∈ [a] → Zo z := fun z hz => by rw [List.mem_singleton.1 hz]; exact ha
  have c := rest_cnt m.1 m.2 bs hb hl h
  have pos : 0 < cnt n p.1 p.2.1 p.2.2.1 p.2.2.2 := cnt_zero.2 ⟨z, hz, k⟩
  by_cases y : 0 < cnt bs p.1 p.2.1 p.2.2.1 p.2.2.2
  · rw [if_pos y] at c; omega
  · rw [if_neg y] at c
    have : 0 < cnt [a] p.1 p.2.1 p.2.2.1 p.2.2.2 := by omega
    obtain ⟨b, hb1, hb2⟩ := cnt_zero.1 this
    rw [List.mem_singleton.1 hb1] at hb2
    refine ⟨hb2, fun b hb => ?_⟩
    cases e : hasP b p with
    | false => rfl
    | true => exact (y (cnt_zero.2 ⟨b, hb, e⟩)).elim
/-! what is wanted -/
/-- from a place on down, each that is covered by the others goes. -/
def Want (R : List (List Int) → List (List Int) → List (List Int) → Int → Prop) : Nat → List (List Int) → List (List Int) → Int → Prop
  | 0, out, r, f => r = out ∧ f = 0
  | i + 1, out, r, f => ∃ n e, R (out.eraseIdx i) [out[i]?.getD []] n e ∧ ((e ≠ 0 ∧ r = [] ∧ f = e) ∨ (e = 0 ∧ ((n = [] ∧ Want R i (out.eraseIdx i) r f) ∨ (n ≠ [] ∧ Want R i out r f))))
/-- is each of some covered? -/
def Alls (R : List (List Int) → List (List Int) → List (List Int) → Int → Prop) (b : List (List Int)) : List (List Int) → Bool → Int → Prop
  | [], is, f => is = true ∧ f = 0
  | a :: us, is, f => ∃ n e, R b [a] n e ∧ ((e ≠ 0 ∧ is = false ∧ f = e) ∨ (e = 0 ∧ ((n ≠ [] ∧ is = false ∧ f = 0) ∨ (n = [] ∧ Alls R b us is f))))
theorem want_same : ∀ (i : Nat) {out r r' : List (List Int)} {f f' : Int}, Want RestR i out r f → Want RestR i out r' f' → r' = r ∧ f' = f
  | 0, out, r, r', f, f', h, k => ⟨k.1.trans h.1.symm, k.2.trans h.2.symm⟩
  | i + 1, out, r, r', f, f', h, k => by
    unfold Want at h k
    obtain ⟨n, e, hn, q⟩ := h
    obtain ⟨n', e', hn', q'⟩ := k
    obtain ⟨rfl, rfl⟩ := rest_same _ hn hn'
    rcases q with ⟨q1, q2, q3⟩ | ⟨q1, ⟨q2, q3⟩ | ⟨q2, q3⟩⟩ <;> rcases q' with ⟨p1, p2, p3⟩ | ⟨p1, ⟨p2, p3⟩ | ⟨p2, p3⟩⟩
    all_goals first | exact ⟨p2.trans q2.symm, p3.trans q3.symm⟩ | exact (q1 p1).elim | exact (p1 q1).elim | exact (q2 p2).elim | exact (p2 q2).elim | exact want_same i q3 p3
theorem era_sub (l : List (List Int)) (i : Nat) : ∀ x, x ∈ l.eraseIdx i → x ∈ l := fun x hx => List.mem_of_mem_eraseIdx hx
theorem at_mem {l : List (List Int)} {i : Nat} (h : i < l.length) : l[i]?.getD [] ∈ l := by
  rw [List.getElem?_eq_getElem h]
  exact List.getElem_mem h
/-- with few zones the program's is the document's. -/
theorem want_six : ∀ (i : Nat) {out r : List (List Int)} {f : Int}, i ≤ out.length → out.length ≤ 7 → (∀ x, x ∈ out → Zo x) → Want RestP i out r f → Want RestR i out r f
  | 0, _, _, _, _, _, _, h => h
  | i + 1, out, r, f, hi, h7, hz, h => by
    unfold Want at h ⊢
    obtain ⟨n, e, hn, q⟩ := h
    have le : (out.eraseIdx i).length = out.length - 1 := List.length_eraseIdx_of_lt (by omega)
    have ze : ∀ x, x ∈ out.eraseIdx i → Zo x := fun x hx => hz x (era_sub out i x hx)
    refine ⟨n, e, restP_six (by omega) ze (hz _ (at_mem (by omega))) hn, ?_⟩
    rcases q with q | ⟨q1, ⟨q2, q3⟩ | ⟨q2, q3⟩⟩
    · exact .inl q
    · exact .inr ⟨q1, .inl ⟨q2, want_six i (by omega) (by omega) ze q3⟩⟩
    · exact .inr ⟨q1, .inr ⟨q2, want_six i (by omega) h7 hz q3⟩⟩
theorem want_err : ∀ (i : Nat) {out r : List (List Int)} {f : Int}, Want RestR i out r f → f ≠ 0 → r = []
  | 0, _, _, _, h, k => (k h.2).elim
  | i + 1, out, r, f, h, k => by
    unfold Want at h
    obtain ⟨n, e, hn, q⟩ := h
    rcases q with ⟨_, q, _⟩ | ⟨q1, ⟨q2, q3⟩ | ⟨q2, q3⟩⟩
    · exact q
    · exact want_err i q3 k
    · exact want_err i q3 k
theorem want_sub : ∀ (i : Nat) {out r : List (List Int)}, Want RestR i out r 0 → r.Sublist out
  | 0, _, _, h => by rw [h.1]; exact List.Sublist.refl _
  | i + 1, out, r, h => by
    unfold Want at h
    obtain ⟨n, e, hn, q⟩ := h
    rcases q with ⟨q1, _, q3⟩ | ⟨q1, ⟨q2, q3⟩ | ⟨q2, q3⟩⟩
    · exact (q1 q3.symm).elim
    · exact (want_sub i q3).trans (List.eraseIdx_sublist out i)
    · exact want_sub i q3
theorem era_or {l : List (List Int)} {i : Nat} (h : i < l.length) {x : List Int} (hx : x ∈ l) : x = l[i]?.getD [] ∨ x ∈ l.eraseIdx i := by
  obtain ⟨j, hj, rfl⟩ := List.mem_iff_getElem.1 hx
  by_cases e : j = i
  · subst e
    exact .inl (by rw [List.getElem?_eq_getElem h]; rfl)
  · exact .inr (List.mem_eraseIdx_iff_getElem.2 ⟨j, hj, e, rfl⟩)
/-- the points of what is wanted. -/
theorem want_has : ∀ (i : Nat) {out r : List (List Int)}, i ≤ out.length → (∀ x, x ∈ out → Zo x) → Want RestR i out r 0 → ∀ p, MayQ p → ((∃ b, b ∈ out ∧ hasP b p = true) ↔ ∃ b, b ∈ r ∧ hasP b p = true)
  | 0, out, r, _, _, h, p, m => by rw [h.1]
  | i + 1, out, r, hi, hz, h, p, m => by
    unfold Want at h
    obtain ⟨n, e, hn, q⟩ := h
    have ze : ∀ x, x ∈ out.eraseIdx i → Zo x := fun x hx => hz x (era_sub out i x hx)
    have le : (out.eraseIdx i).length = out.length - 1 := List.length_eraseIdx_of_lt (by omega)
    rcases q with ⟨q1, _, q3⟩ | ⟨q1, ⟨q2, q3⟩ | ⟨q2, q3⟩⟩
    · exact (q1 q3.symm).elim
    · subst q1
      refine Iff.trans ?_ (want_has i (by omega) ze q3 p m)
      refine ⟨fun ⟨b, hb, k⟩ => ?_, fun ⟨b, hb, k⟩ => ⟨b, era_sub out i b hb, k⟩⟩
      rcases era_or (i := i) (by omega) hb with e | e
      · rw [e] at k
        exact (rest_nil ze (hz _ (at_mem (by omega))) hn).1 q2 p m k
      · exact ⟨b, e, k⟩
    · exact want_has i (by omega) hz q3 p m
/-- a zone with a point that none of the others has. -/
def Own (out : List (List Int)) (x : List Int) : Prop := ∃ p, MayQ p ∧ hasP x p = true ∧ ∀ y, y ∈ out → y ≠ x → hasP y p = false
theorem own_less {out l : List (List Int)} {x : List Int} (h : Own out x) (k : ∀ y, y ∈ l → y ∈ out) : Own l x := by
  obtain ⟨p, m, a, b⟩ := h
  exact ⟨p, m, a, fun y hy n => b y (k y hy) n⟩
theorem want_own : ∀ (i : Nat) {out r : List (List Int)}, i ≤ out.length → (∀ x, x ∈ out → Zo x) → Want RestR i out r 0 → (∀ j, i ≤ j → j < out.length → Own out (out[j]?.getD [])) → ∀ x, x ∈ r → Own r x
  | 0, out, r, _, _, h, ho, x, hx => by
    rw [h.1] at hx ⊢
    obtain ⟨j, hj, rfl⟩ := List.mem_iff_getElem.1 hx
    have := ho j (Nat.zero_le _) hj
    rwa [List.getElem?_eq_getElem hj] at this
  | i + 1, out, r, hi, hz, h, ho, x, hx => by
    unfold Want at h
    obtain ⟨n, e, hn, q⟩ := h
    have ze : ∀ x, x ∈ out.eraseIdx i → Zo x := fun x hx => hz x (era_sub out i x hx)
    have le : (out.eraseIdx i).length = out.length - 1 := List.length_eraseIdx_of_lt (by omega)
    rcases q with ⟨q1, _, q3⟩ | ⟨q1, ⟨q2, q3⟩ | ⟨q2, q3⟩⟩
    · exact (q1 q3.symm).elim
    · refine want_own i (by omega) ze q3 (fun j h1 h2 => ?_) x hx
      have := own_less (ho (j + 1) (by omega) (by omega)) (era_sub out i)
      rwa [List.getElem?_eraseIdx_of_ge h1]
    · refine want_own i (by omega) hz q3 (fun j h1 h2 => ?_) x hx
      by_cases e' : j = i
      · subst e' q1
        have zj := hz _ (at_mem (by omega : j < out.length))
        match n, q2, hn with
        | [], q2, _ => exact (q2 rfl).elim
        | z :: n, _, hn =>
          obtain ⟨p, m, k⟩ := zo_point (rest_zo _ ze (fun y hy => by rw [List.mem_singleton.1 hy]; exact zj) hn z List.mem_cons_self)
          obtain ⟨k1, k2⟩ := rest_point ze zj hn List.mem_cons_self m k
          refine ⟨p, m, k1, fun y hy ny => ?_⟩
          rcases era_or (i := j) (by omega) hy with e | e
          · exact (ny e).elim
          · exact k2 y e
      · exact ho j (by omega) h2
/-- the same, of the program's own count at each piece, where it answers. -/
theorem restP_nil {bs : List (List Int)} {a : List Int} {n : List (List Int)} (hb : ∀ b, b ∈ bs → Zo b) (ha : Zo a) (h : RestP bs [a] n 0) : n = [] ↔ ∀ p, MayQ p → hasP a p = true → ∃ b, b ∈ bs ∧ hasP b p = true :=
  rest_nil hb ha (restP_ok bs hb (fun z hz => by rw [List.mem_singleton.1 hz]; exact ha) h)
/-- covered by some, covered by more. -/
theorem more_nil {bs cs : List (List Int)} {a : List Int} {n m : List (List Int)} (hb : ∀ b, b ∈ bs → Zo b) (hc : ∀ b, b ∈ cs → Zo b) (ha : Zo a) (hs : ∀ b, b ∈ bs → b ∈ cs) (h : RestP bs [a] n 0) (k : RestP cs [a] m 0) (e : n = []) : m = [] :=
  (restP_nil hc ha k).2 fun p hp ap => by
    obtain ⟨b, h1, h2⟩ := (restP_nil hb ha h).1 e p hp ap
    exact ⟨b, hs b h1, h2⟩
end Go.Proofs.YthljhijcmdnonaaDoor.cover
