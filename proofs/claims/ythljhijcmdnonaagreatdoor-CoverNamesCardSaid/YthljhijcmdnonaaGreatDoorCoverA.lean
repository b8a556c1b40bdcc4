
/-
  What zones cover, pure: zones in their order, each once; what is wanted of some; a zone that some cover; each theorem names its conditions.
-/
import Derived.Test.YthljhijcmdnonaaGreatDoorMinusA
namespace Go.Proofs.YthljhijcmdnonaaGreatDoor.cover
open way num rat dbm Go.Proofs.YthljhijcmdnonaaGreatDoor.tight Go.Proofs.YthljhijcmdnonaaGreatDoor.tkept Go.Proofs.YthljhijcmdnonaaGreatDoor.incl Go.Proofs.YthljhijcmdnonaaGreatDoor.zone Go.Proofs.YthljhijcmdnonaaGreatDoor.win Go.Proofs.YthljhijcmdnonaaGreatDoor.minus
open bound hiding up
set_option linter.unusedVariables false
set_option linter.unusedSimpArgs false
set_option linter.unusedSectionVars false

/-- zones in their order, each once. -/
def Srt (s : List (List Int)) : Prop := s.Pairwise fun x y => cmpL x y < 0
theorem cmp_lt_trans {a b c : List Int} (h : cmpL a b < 0) (k : cmpL b c < 0) : cmpL a c < 0 := by
  have t := cmp_trans a b c (by omega) (by omega)
  rcases cmp_in a c with e | e | e
  · omega
  · have := (cmp_zero a c).1 e
    subst this
    have := cmp_back a b
    omega
  · omega
theorem cmp_self (a : List Int) : cmpL a a = 0 := (cmp_zero a a).2 rfl
theorem srt_same : ∀ {s t : List (List Int)}, Srt s → Srt t → (∀ x, x ∈ s ↔ x ∈ t) → s = t
  | [], [], _, _, _ => rfl
  | [], y :: t, _, _, h => by have := (h y).2 List.mem_cons_self; cases this
  | x :: s, [], _, _, h => by have := (h x).1 List.mem_cons_self; cases this
  | x :: s, y :: t, hs, ht, h => by
    obtain ⟨hx, hs'⟩ := List.pairwise_cons.1 hs
    obtain ⟨hy, ht'⟩ := List.pairwise_cons.1 ht
    have e : x = y := by
      rcases List.mem_cons.1 ((h x).1 List.mem_cons_self) with e | e
      · exact e
      rcases List.mem_cons.1 ((h y).2 List.mem_cons_self) with k | k
      · exact k.symm
      have h1 := hx y k
      have h2 := hy x e
      have := cmp_back x y
      omega
    subst e
    congr 1
    refine srt_same hs' ht' fun z => ⟨fun hz => ?_, fun hz => ?_⟩
    · rcases List.mem_cons.1 ((h z).1 (List.mem_cons_of_mem _ hz)) with e | e
      · have h1 := hx z hz
        rw [e, cmp_self] at h1
        omega
      · exact e
    · rcases List.mem_cons.1 ((h z).2 (List.mem_cons_of_mem _ hz)) with e | e
      · have h1 := hy z hz
        rw [e, cmp_self] at h1
        omega
      · exact e
theorem srt_nodup {s : List (List Int)} (h : Srt s) : s.Nodup := h.imp fun {x y} k e => by
  subst e
  rw [cmp_self] at k
  omega
/-- without twins, no longer than that out of which it is. -/
theorem nodup_len : ∀ {s l : List (List Int)}, s.Nodup → (∀ x, x ∈ s → x ∈ l) → s.length ≤ l.length
  | [], l, _, _ => Nat.zero_le _
  | x :: s, l, d, h => by
    obtain ⟨dx, d⟩ := List.nodup_cons.1 d
    have m := h x List.mem_cons_self
    have := nodup_len (l := l.erase x) d fun y hy => by
      have : y ≠ x := fun e => dx (e ▸ hy)
      exact (List.mem_erase_of_ne this).2 (h y (List.mem_cons_of_mem _ hy))
    have e := List.length_erase_of_mem m
    have := List.length_pos_of_mem m
    rw [List.length_cons]
    omega
/-- put where it belongs, once. -/
def ins (z : List Int) : List (List Int) → List (List Int)
  | [] => [z]
  | y :: t => if cmpL z y < 0 then z :: y :: t else if cmpL z y = 0 then y :: t else y :: ins z t
theorem ins_mem (z : List Int) : ∀ (s : List (List Int)) (x : List Int), x ∈ ins z s ↔ x = z ∨ x ∈ s
  | [], x => by unfold ins; simp
  | y :: t, x => by
    unfold ins
    by_cases a : cmpL z y < 0
    · rw [if_pos a, List.mem_cons]
    rw [if_neg a]
    by_cases b : cmpL z y = 0
    · rw [if_pos b, (cmp_zero z y).1 b, List.mem_cons]
      exact ⟨fun h => .inr h, fun h => h.elim (fun e => .inl e) id⟩
    · rw [if_neg b, List.mem_cons, List.mem_cons, ins_mem z t x]
      exact ⟨fun h => h.elim (fun e => .inr (.inl e)) (fun h => h.elim .inl (fun e => .inr (.inr e))), fun h => h.elim (fun e => .inr (.inl e)) (fun h => h.elim .inl (fun e => .inr (.inr e)))⟩
theorem ins_srt (z : List Int) : ∀ {s : List (List Int)}, Srt s → Srt (ins z s)
  | [], _ => by unfold ins; exact List.pairwise_singleton _ _
  | y :: t, h => by
    obtain ⟨h1, h2⟩ := List.pairwise_cons.1 h
    unfold ins
    by_cases a : cmpL z y < 0
    · rw [if_pos a]
      refine List.pairwise_cons.2 ⟨fun x hx => ?_, h⟩
      rcases List.mem_cons.1 hx with e | e
      · rw [e]; exact a
      · exact cmp_lt_trans a (h1 x e)
    rw [if_neg a]
    by_cases b : cmpL z y = 0
    · rw [if_pos b]; exact h
    · rw [if_neg b]
      refine List.pairwise_cons.2 ⟨fun x hx => ?_, ins_srt z h2⟩
      rcases (ins_mem z t x).1 hx with e | e
      · rw [e]
        have := cmp_back z y
        rcases cmp_in z y with k | k | k <;> omega
      · exact h1 x e
/-- some zones in their order, each once. -/
def srt (l : List (List Int)) : List (List Int) := l.foldr ins []
theorem srt_mem : ∀ (l : List (List Int)) (x : List Int), x ∈ srt l ↔ x ∈ l
  | [], x => Iff.rfl
  | y :: l, x => by
    show x ∈ ins y (srt l) ↔ _
    rw [ins_mem, srt_mem l x, List.mem_cons]
theorem srt_is : ∀ (l : List (List Int)), Srt (srt l)
  | [] => List.Pairwise.nil
  | y :: l => ins_srt y (srt_is l)
theorem srt_len (l : List (List Int)) : (srt l).length ≤ l.length := nodup_len (srt_nodup (srt_is l)) fun x hx => (srt_mem l x).1 hx
theorem srt_eq {s : List (List Int)} (h : Srt s) {l : List (List Int)} (k : ∀ x, x ∈ s ↔ x ∈ l) : s = srt l := srt_same h (srt_is l) fun x => (k x).trans (srt_mem l x).symm
/-! a zone that some cover -/
/-! what is wanted -/
/-- from a place on down, each that is covered by the others goes. -/
def Want (R : List (List Int) → List (List Int) → List (List Int) → Int → Prop) : Nat → List (List Int) → List (List Int) → Int → Prop
  | 0, out, r, f => r = out ∧ f = 0
  | i + 1, out, r, f => ∃ n e, R (out.eraseIdx i) [out[i]?.getD []] n e ∧ ((e ≠ 0 ∧ r = [] ∧ f = e) ∨ (e = 0 ∧ ((n = [] ∧ Want R i (out.eraseIdx i) r f) ∨ (n ≠ [] ∧ Want R i out r f))))
/-- is each of some covered? -/
def Alls (R : List (List Int) → List (List Int) → List (List Int) → Int → Prop) (b : List (List Int)) : List (List Int) → Bool → Int → Prop
  | [], is, f => is = true ∧ f = 0
  | a :: us, is, f => ∃ n e, R b [a] n e ∧ ((e ≠ 0 ∧ is = false ∧ f = e) ∨ (e = 0 ∧ ((n ≠ [] ∧ is = false ∧ f = 0) ∨ (n = [] ∧ Alls R b us is f))))
theorem want_same : ∀ (i : Nat) {out r r' : List (List Int)} {f f' : Int}, Want RestR i out r f → Want RestR i out r' f' → r' = r ∧ f' = f
  | 0, out, r, r', f, f', h, k => ⟨k.1.trans h.1.symm, k.2.trans h.2.symm⟩
  | i + 1, out, r, r', f, f', h, k => by
    unfold Want at h k
    obtain ⟨n, e, hn, q⟩ := h
    obtain ⟨n', e', hn', q'⟩ := k
    obtain ⟨rfl, rfl⟩ := rest_same _ hn hn'
    rcases q with ⟨q1, q2, q3⟩ | ⟨q1, ⟨q2, q3⟩ | ⟨q2, q3⟩⟩ <;> rcases q' with ⟨p1, p2, p3⟩ | ⟨p1, ⟨p2, p3⟩ | ⟨p2, p3⟩⟩
    all_goals first | exact ⟨p2.trans q2.symm, p3.trans q3.symm⟩ | exact (q1 p1).elim | exact (p1 q1).elim | exact (q2 p2).elim | exact (p2 q2).elim | exact want_same i q3 p3
theorem era_sub (l : List (List Int)) (i : Nat) : ∀ x, x ∈ l.eraseIdx i → x ∈ l := fun x hx => List.mem_of_mem_eraseIdx hx
theorem at_mem {l : List (List Int)} {i : Nat} (h : i < l.length) : l[i]?.getD [] ∈ l := by
  rw [List.getElem?_eq_getElem h]
  exact List.getElem_mem h
/-- with few zones the program's is the document's. -/
theorem want_six : ∀ (i : Nat) {out r : List (List Int)} {f : Int}, i ≤ out.length → out.length ≤ 7 → (∀ x, x ∈ out → Zo x) → Want RestP i out r f → Want RestR i out r f
  | 0, _, _, _, _, _, _, h => h
  | i + 1, out, r, f, hi, h7, hz, h => by
    unfold Want at h ⊢
    obtain ⟨n, e, hn, q⟩ := h
    have le : (out.eraseIdx i).length = out.length - 1 := List.length_eraseIdx_of_lt (by omega)
    have ze : ∀ x, x ∈ out.eraseIdx i → Zo x := fun x hx => hz x (era_sub out i x hx)
    refine ⟨n, e, restP_six (by omega) ze (hz _ (at_mem (by omega))) hn, ?_⟩
    rcases q with q | ⟨q1, ⟨q2, q3⟩ | ⟨q2, q3⟩⟩
    · exact .inl q
    · exact .inr ⟨q1, .inl ⟨q2, want_six i (by omega) (by omega) ze q3⟩⟩
    · exact .inr ⟨q1, .inr ⟨q2, want_six i (by omega) h7 hz q3⟩⟩
/-- a zone with a point that none of the others has. -/
def Own (out : List (List Int)) (x : List Int) : Prop := ∃ p, MayQ p ∧ hasP x p = true ∧ ∀ y, y ∈ out → y ≠ x → hasP y p = false
end Go.Proofs.YthljhijcmdnonaaGreatDoor.cover
