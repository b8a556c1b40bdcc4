/-
  A drawn region that reads cells and stores into them at its end: what is read may be taken first, as long as the first store has not come up, and the store waits for it; each theorem names its conditions.
-/
import Derived.Deep.RegionHeld
namespace Go.Proofs.YtcaoooddmmhieaaDoor.till
open Go
set_option linter.unusedVariables false

section
variable {P : Program} {ops : Array Oper} {Q : Exit → Act → World → Prop} {md : Region.Mode} {S T : World → Prop} {k : Nat}

/-- does an operation wait for another one? -/
def waits (md : Region.Mode) (ops : Array Oper) (k i : Nat) : Bool := ((ops[k]?).map fun o => o.after.any fun e => Region.binds md e && e.on == i).getD false
theorem waits_is {i : Nat} (h : waits md ops k i = true) : ∃ o, ops[k]? = some o ∧ ∃ e ∈ o.after, Region.binds md e = true ∧ e.on = i := by
  unfold waits at h
  cases ho : ops[k]? with
  | none => rw [ho] at h; cases h
  | some o =>
    rw [ho] at h
    have h : (o.after.any fun e => Region.binds md e && e.on == i) = true := h
    obtain ⟨e, he, hb⟩ := Array.any_eq_true'.1 h
    rw [Bool.and_eq_true, beq_iff_eq] at hb
    exact ⟨o, rfl, e, he, hb.1, hb.2⟩
/-- in any order; and until number k has come up, S holds behind each. -/
def Goes (P : Program) (md : Region.Mode) (ops : Array Oper) (Q : Exit → Act → World → Prop) (S : World → Prop) (k : Nat) : Nat → Array Bool → Act → World → Prop
  | 0, l, a, w => Region.ready md ops l = [] ∧ Q .normal a w
  | f + 1, l, a, w => (Region.ready md ops l = [] → Q .normal a w) ∧ ∀ i, i ∈ Region.ready md ops l →
      wpOp P ops Q i (fun b v => (l.getD k true = false → i ≠ k → S v) ∧ Goes P md ops Q S k f (l.setIfInBounds i true) b v) a w
theorem Goes.any : ∀ (f : Nat) (l : Array Bool) (a : Act) (w : World), Goes P md ops Q S k f l a w → wpAny P md ops Q f l a w
  | 0, _, _, _, h => h
  | f + 1, l, a, w, h => ⟨h.1, fun i hi => wpOp_mono (fun b v hv => Goes.any f _ b v hv.2) (h.2 i hi)⟩
theorem set_in {l : Array Bool} {i j : Nat} (h : l.getD j true = true) : (l.setIfInBounds i true).getD j true = true := by
  by_cases e : i = j
  · subst e
    by_cases hb : i < l.size
    · simp [hb]
    · simp [Nat.not_lt.1 hb]
  · rw [getD_set_ne true e]; exact h
/-- number k has come up: by any other condition. -/
theorem Goes.of_held : ∀ (f : Nat) (l : Array Bool) (a : Act) (w : World), l.getD k true = true → wpAnyH P md ops Q T f l a w → Goes P md ops Q S k f l a w
  | 0, _, _, _, _, h => h
  | f + 1, l, a, w, hk, h => ⟨h.1, fun i hi => wpOp_mono (fun b v hv => ⟨fun n _ => (by rw [hk] at n; cases n), Goes.of_held f _ b v (set_in hk) hv.2⟩) (h.2 i hi)⟩
theorem Goes.first {i : Nat} {oi : Oper} {v : Value} (hi : ops[i]? = some oi) (hsel : ∀ (j : Nat) (o : Oper) cs b, ops[j]? = some o → o.op ≠ .select cs b)
    (hQ : ∀ c a w, Q (.panic c) (a.put oi.dst v) w → Q (.panic c) a w) (hw : waits md ops k i = true) :
    ∀ (f : Nat) (l : Array Bool) (a : Act) (w : World), l.getD k true = false →
      (∀ j oj, ops[j]? = some oj → j ≠ i → l.getD j true = false → (∀ e ∈ oj.after, Region.binds md e = true → e.on ≠ i) → oi.apart ops oj = true) →
      i ∈ Region.ready md ops l → YieldsIf P ops S oi v a → S w →
      Goes P md ops Q S k f (l.setIfInBounds i true) (a.put oi.dst v) w → Goes P md ops Q S k (f + 1) l a w := by
  obtain ⟨ok, hok, ek, hek, hbk, hon⟩ := waits_is hw
  have away : ∀ l : Array Bool, i ∈ Region.ready md ops l → k ∉ Region.ready md ops l := fun l hr hkr => by
    obtain ⟨_, o, ho, hall⟩ := mem_ready.1 hkr
    obtain rfl : o = ok := Option.some.inj (ho.symm.trans hok)
    have h1 := hall ek hek hbk
    have h0 := (mem_ready.1 hr).1
    rw [hon] at h1
    by_cases hb : i < l.size
    · simp [hb] at h0 h1; rw [h0] at h1; cases h1
    · simp [Nat.not_lt.1 hb] at h1
  intro f
  induction f with
  | zero =>
    intro l a w hk hfree hr hy hS H
    refine ⟨fun n => (by rw [n] at hr; cases hr), fun j hj => ?_⟩
    by_cases e : j = i
    · subst e; exact hy.wpOp hi hS ⟨fun _ _ => hS, H⟩
    · have := ready_mono hj e
      rw [H.1] at this
      cases this
  | succ f ih =>
    intro l a w hk hfree hr hy hS H
    refine ⟨fun n => (by rw [n] at hr; cases hr), fun j hj => ?_⟩
    by_cases e : j = i
    · subst e; exact hy.wpOp hi hS ⟨fun _ _ => hS, H⟩
    · have hjk : j ≠ k := fun q => away l hr (q ▸ hj)
      have hik : i ≠ k := fun q => away l hr (q ▸ hr)
      have h1 := H.2 j (ready_mono hj e)
      obtain ⟨hjun, oj, hoj, hall⟩ := mem_ready.1 hj
      have hnot : ∀ e ∈ oj.after, Region.binds md e = true → e.on ≠ i := fun e he hb heq => by
        have h1 := hall e he hb
        have h0 := (mem_ready.1 hr).1
        rw [heq] at h1
        by_cases hb : i < l.size
        · simp [hb] at h0 h1; rw [h0] at h1; cases h1
        · simp [Nat.not_lt.1 hb] at h1
      have h2 := wpOp_putIf hoj (hfree j oj hoj e hjun hnot) (fun cs b => hsel i oi cs b hi) (fun cs b => hsel j oj cs b hoj) hQ hy h1
      have hk' : (l.setIfInBounds j true).getD k true = false := by rw [getD_set_ne true hjk]; exact hk
      have hki : (l.setIfInBounds i true).getD k true = false := by rw [getD_set_ne true hik]; exact hk
      have hfree' : ∀ m om, ops[m]? = some om → m ≠ i → (l.setIfInBounds j true).getD m true = false → (∀ e ∈ om.after, Region.binds md e = true → e.on ≠ i) → oi.apart ops om = true := fun m om hm hmi hun hno => by
        refine hfree m om hm hmi ?_ hno
        by_cases q : j = m
        · subst q; exact hjun
        · rw [getD_set_ne true q] at hun; exact hun
      refine wpOp_mono (fun b v h3 => ?_) h2
      have hSv := h3.2.1 hki hjk
      refine ⟨fun _ _ => hSv, ih (l.setIfInBounds j true) b v hk' hfree' (ready_mono hr (Ne.symm e)) h3.1 hSv ?_⟩
      rw [Array.setIfInBounds_comm _ _ e]
      exact h3.2.2
/-- one that reads, or computes, is taken first. -/
theorem Goes.take {i : Nat} {oi : Oper} {v : Value} {f : Nat} {l : Array Bool} {a : Act} {w : World} (hi : ops[i]? = some oi) (hs : Region.noSelect ops = true) (hf : Region.free md ops l i = true)
    (hr : (Region.ready md ops l).contains i = true) (hQ : ∀ c a w, Q (.panic c) (a.put oi.dst v) w → Q (.panic c) a w) (hw : waits md ops k i = true) (hk : l.getD k true = false) (hy : YieldsIf P ops S oi v a) (hS : S w)
    (h : Goes P md ops Q S k f (l.setIfInBounds i true) (a.put oi.dst v) w) : Goes P md ops Q S k (f + 1) l a w :=
  Goes.first hi (Region.noSelect_spec hs) hQ hw f l a w hk (Region.free_spec hi hf) (by simpa using hr) hy hS h
/-- number k has come up: nothing more is asked. -/
theorem Goes.free : ∀ {f : Nat} {l : Array Bool} {a : Act} {w : World}, l.getD k true = true → wpAny P md ops Q f l a w → Goes P md ops Q S k f l a w
  | 0, _, _, _, _, h => h
  | f + 1, l, a, w, hk, h => ⟨h.1, fun i hi => wpOp_mono (fun b v hv => ⟨fun n _ => (by rw [hk] at n; cases n), Goes.free (set_in hk) hv⟩) (h.2 i hi)⟩
theorem Goes.first1 {i : Nat} {oi : Oper} {v : Value} (hi : ops[i]? = some oi) (hsel : ∀ (j : Nat) (o : Oper) cs b, ops[j]? = some o → o.op ≠ .select cs b)
    (hQ : ∀ c a w, Q (.panic c) (a.put oi.dst v) w → Q (.panic c) a w) (f : Nat) (l : Array Bool) (a : Act) (w : World)
    (hfree : ∀ j oj, ops[j]? = some oj → j ≠ i → l.getD j true = false → (∀ e ∈ oj.after, Region.binds md e = true → e.on ≠ i) → oi.apart ops oj = true)
    (hr : i ∈ Region.ready md ops l) (hy : YieldsIf P ops (fun _ => True) oi v a) (H : wpAny P md ops Q f (l.setIfInBounds i true) (a.put oi.dst v) w) : wpAny P md ops Q (f + 1) l a w :=
  wpAny_first hi hsel hQ f l a w hfree hr (hy.imp (fun h => ⟨h.1, fun w => h.2 w trivial⟩) id) H
theorem Goes.first0 {i : Nat} {oi : Oper} {v : Value} (hi : ops[i]? = some oi) (hsel : ∀ (j : Nat) (o : Oper) cs b, ops[j]? = some o → o.op ≠ .select cs b)
    (hQ : ∀ c a w, Q (.panic c) (a.put oi.dst v) w → Q (.panic c) a w) (hik : i ≠ k) :
    ∀ (f : Nat) (l : Array Bool) (a : Act) (w : World),
      (∀ j oj, ops[j]? = some oj → j ≠ i → l.getD j true = false → (∀ e ∈ oj.after, Region.binds md e = true → e.on ≠ i) → oi.apart ops oj = true) →
      i ∈ Region.ready md ops l → YieldsIf P ops (fun _ => True) oi v a → S w →
      Goes P md ops Q S k f (l.setIfInBounds i true) (a.put oi.dst v) w → Goes P md ops Q S k (f + 1) l a w := by
  intro f
  induction f with
  | zero =>
    intro l a w hfree hr hy hS H
    refine ⟨fun n => (by rw [n] at hr; cases hr), fun j hj => ?_⟩
    by_cases e : j = i
    · subst e; exact hy.wpOp hi trivial ⟨fun _ _ => hS, H⟩
    · have := ready_mono hj e
      rw [H.1] at this
      cases this
  | succ f ih =>
    intro l a w hfree hr hy hS H
    refine ⟨fun n => (by rw [n] at hr; cases hr), fun j hj => ?_⟩
    by_cases e : j = i
    · subst e; exact hy.wpOp hi trivial ⟨fun _ _ => hS, H⟩
    · have h1 := H.2 j (ready_mono hj e)
      obtain ⟨hjun, oj, hoj, hall⟩ := mem_ready.1 hj
      have hnot : ∀ e ∈ oj.after, Region.binds md e = true → e.on ≠ i := fun e he hb heq => by
        have h1 := hall e he hb
        have h0 := (mem_ready.1 hr).1
        rw [heq] at h1
        by_cases hb : i < l.size
        · simp [hb] at h0 h1; rw [h0] at h1; cases h1
        · simp [Nat.not_lt.1 hb] at h1
      have h2 := wpOp_putIf hoj (hfree j oj hoj e hjun hnot) (fun cs b => hsel i oi cs b hi) (fun cs b => hsel j oj cs b hoj) hQ hy h1
      have hfree' : ∀ m om, ops[m]? = some om → m ≠ i → (l.setIfInBounds j true).getD m true = false → (∀ e ∈ om.after, Region.binds md e = true → e.on ≠ i) → oi.apart ops om = true := fun m om hm hmi hun hno => by
        refine hfree m om hm hmi ?_ hno
        by_cases q : j = m
        · subst q; exact hjun
        · rw [getD_set_ne true q] at hun; exact hun
      refine wpOp_mono (fun b v h3 => ?_) h2
      have key : l.getD k true = false → j ≠ k → S v := fun hk hjk => h3.2.1 (by rw [getD_set_ne true hik]; exact hk) hjk
      by_cases hk : l.getD k true = false ∧ j ≠ k
      · have hSv := key hk.1 hk.2
        refine ⟨fun _ _ => hSv, ih (l.setIfInBounds j true) b v hfree' (ready_mono hr (Ne.symm e)) h3.1 hSv ?_⟩
        rw [Array.setIfInBounds_comm _ _ e]
        exact h3.2.2
      · refine ⟨key, ?_⟩
        have hl : (l.setIfInBounds j true).getD k true = true := by
          by_cases q : j = k
          · subst q
            by_cases hb : j < l.size
            · simp [hb]
            · simp [Nat.not_lt.1 hb]
          · refine set_in ?_
            cases hv : l.getD k true with
            | true => rfl
            | false => exact (hk ⟨hv, q⟩).elim
        refine Goes.free hl (Goes.first1 hi hsel hQ f (l.setIfInBounds j true) b v hfree' (ready_mono hr (Ne.symm e)) h3.1 ?_)
        rw [Array.setIfInBounds_comm _ _ e]
        exact Goes.any _ _ _ _ h3.2.2
/-- one that yields its value in whatever world is taken first. -/
theorem Goes.take0 {i : Nat} {oi : Oper} {v : Value} {f : Nat} {l : Array Bool} {a : Act} {w : World} (hi : ops[i]? = some oi) (hs : Region.noSelect ops = true) (hf : Region.free md ops l i = true)
    (hr : (Region.ready md ops l).contains i = true) (hQ : ∀ c a w, Q (.panic c) (a.put oi.dst v) w → Q (.panic c) a w) (hik : i ≠ k) (hy : YieldsIf P ops (fun _ => True) oi v a) (hS : S w)
    (h : Goes P md ops Q S k f (l.setIfInBounds i true) (a.put oi.dst v) w) : Goes P md ops Q S k (f + 1) l a w :=
  Goes.first0 hi (Region.noSelect_spec hs) hQ hik f l a w (Region.free_spec hi hf) (by simpa using hr) hy hS h
/-- one alone may come up, ahead of number k. -/
theorem Goes.next {i : Nat} {o : Oper} {f : Nat} {l : Array Bool} {a : Act} {w : World} (hr : Region.ready md ops l = [i]) (ho : ops[i]? = some o)
    (h : ∀ K' : Act → World → Prop, Shut (∀ a w, S w → (S w → Goes P md ops Q S k f (l.setIfInBounds i true) a w) → K' a w) → if Region.wanted o (yielded ops a.tmps) = true then Oper.wp P o a w K' Q else K' (a.put o.dst undef) w) : Goes P md ops Q S k (f + 1) l a w := by
  refine ⟨fun n => (by rw [n] at hr; cases hr), fun j hj => ?_⟩
  rw [hr] at hj
  obtain rfl : j = i := by simpa using hj
  exact wpOp_step ho (fun K' hK => h K' (fun a w hS hW => hK a w ⟨fun _ _ => hS, hW hS⟩))
/-- number k itself; behind it by another condition. -/
theorem Goes.turn (T : World → Prop) {o : Oper} {f : Nat} {l : Array Bool} {a : Act} {w : World} (hr : Region.ready md ops l = [k]) (ho : ops[k]? = some o) (hl : (l.setIfInBounds k true).getD k true = true)
    (h : ∀ K' : Act → World → Prop, Shut (∀ a w, T w → (T w → wpAnyH P md ops Q T f (l.setIfInBounds k true) a w) → K' a w) → if Region.wanted o (yielded ops a.tmps) = true then Oper.wp P o a w K' Q else K' (a.put o.dst undef) w) : Goes P md ops Q S k (f + 1) l a w := by
  refine ⟨fun n => (by rw [n] at hr; cases hr), fun j hj => ?_⟩
  rw [hr] at hj
  obtain rfl : j = k := by simpa using hj
  exact wpOp_step ho (fun K' hK => h K' (fun a w hT hW => hK a w ⟨fun _ n => absurd rfl n, Goes.of_held f _ a w hl (hW hT)⟩))
theorem begin {id : Nat} {a : Act} {w : World} (k : Nat) (S : World → Prop) (hm : P.follows .mixedOrders = true) (hS : S w.drew)
    (h : S w.drew → Goes P .any ops Q S k ops.size (Array.replicate ops.size false) a w.drew) : (Code.region id ops true).wp P Q a w :=
  wp_region_any hm (Goes.any _ _ _ _ (h hS))
end
end Go.Proofs.YtcaoooddmmhieaaDoor.till
