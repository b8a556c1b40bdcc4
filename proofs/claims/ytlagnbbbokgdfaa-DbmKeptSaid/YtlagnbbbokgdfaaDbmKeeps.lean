/-
  Whether times keep a matrix (dbm.Keeps), where all may be and they are as many as the clocks but one; the conditions: they are ints, in memory.
-/
import Derived.Test.YtlagnbbbokgdfaaDbmRats
import Derived.Maps.OwnIn
import Derived.Laws.OwnMore
namespace Go.Proofs.Ytlagnbbbokgdfaa.dbm
open Go.RowKit Go.Shelf num rat
open bound hiding up
attribute [local go_sem] Oper.semAt_some
set_option linter.unusedVariables false
set_option linter.unusedSimpArgs false

/-- the cells of fractions. -/
def flat (rs : List (Int × Int)) : List Value := rs.flatMap fun x => [.int .i64 x.1, .int .i64 x.2]
theorem flat_length (rs : List (Int × Int)) : (flat rs).length = rs.length * 2 := by
  induction rs with
  | nil => rfl
  | cons x rs ih => simp [flat] at ih ⊢; omega
theorem flat_cons (x : Int × Int) (rs : List (Int × Int)) : flat (x :: rs) = [.int .i64 x.1, .int .i64 x.2] ++ flat rs := rfl
theorem flat_at (rs : List (Int × Int)) (k : Nat) (h : k < rs.length) : (flat rs)[k * 2]? = some (.int .i64 (pr rs k).1) ∧ (flat rs)[k * 2 + 1]? = some (.int .i64 (pr rs k).2) := by
  induction rs generalizing k with
  | nil => simp at h
  | cons x rs ih =>
    cases k with
    | zero => exact ⟨rfl, rfl⟩
    | succ k =>
      have := ih k (by simpa using h)
      rw [flat_cons, Nat.add_mul, Nat.one_mul]
      refine ⟨?_, ?_⟩
      · rw [List.getElem?_append_right (by simp)]
        simpa [pr] using this.1
      · rw [List.getElem?_append_right (by simp)]
        simpa [pr] using this.2
theorem flat_row {W : World} {b off : Nat} {rs : List (Int × Int)} (h : RowR W b off rs) (j : Nat) (v : Value) (hj : (flat rs)[j]? = some v) : W.cell? ((⟨b, off, none⟩ : Addr).add j) = some v := by
  have hl : j < rs.length * 2 := by
    rw [← flat_length]
    exact (List.getElem?_eq_some_iff.1 hj).1
  rw [Go.WideShapes.add_plain]
  obtain ⟨a, b⟩ := h (j / 2) (by omega)
  obtain ⟨c, d⟩ := flat_at rs (j / 2) (by omega)
  rcases Nat.mod_two_eq_zero_or_one j with e | e
  · have : j / 2 * 2 = j := by omega
    rw [this] at a c
    rw [a, ← c, hj]
  · have : j / 2 * 2 + 1 = j := by omega
    rw [Nat.add_assoc, this] at b
    rw [this] at d
    rw [b, ← d, hj]
theorem flat_one (rs : List (Int × Int)) : ∀ u ∈ flat rs, u.oneCell' = true := by
  intro u hu
  obtain ⟨x, _, hx⟩ := List.mem_flatMap.1 hu
  simp at hx
  rcases hx with rfl | rfl <;> rfl

theorem info_r : (Try.prog.info? 31).map (fun i => (i.zero, i.size, i.bytes)) = some (some (.agg #[.int .i64 (0), .int .i64 (0)]), 2, 16) := by kernel_rfl
/-- append, of times to a row of one's own. -/
theorem app_times (base : Nat) (ty : TypeId) (v tv : Value) (n n₀ : Nat) (xs : List Value) (rs : List (Int × Int)) (W : World) (hown : W.ownsRow base 31 2 v n xs) (hn : (v = .slice none 0 0) = False) (h : Rats n₀ W tv rs) (hm : n + rs.length ≤ 1000000) (hb : base ≤ W.heap.size) :
    ∃ v' w', (Builtin.append_ #[32, 32] ty #[v, tv]).run Try.prog W = .ok v' w' ∧ w'.ownsRow base 31 2 v' (n + rs.length) (xs ++ flat rs) ∧ W.grownBy w' v.ownBlock ∧ v' ≠ .slice none 0 0 := by
  obtain ⟨i, hi, hz, hs, hby⟩ := info_parts info_r
  have some_case : ∀ (a : Addr) (cap : Nat), (∀ j u, (flat rs)[j]? = some u → W.cell? (a.add j) = some u) →
      ∃ v' w', (Builtin.append_ #[32, 32] ty #[v, .slice (some a) rs.length cap]).run Try.prog W = .ok v' w' ∧ w'.ownsRow base 31 2 v' (n + rs.length) (xs ++ flat rs) ∧ W.grownBy w' v.ownBlock ∧ v' ≠ .slice none 0 0 := fun a cap hc => by
    obtain ⟨v', w', hr, h2, h3, h4, _⟩ := run_append_own_at (P := Try.prog) (w := W) base 32 ty 31 i _ 2 16 Try.underlying32 hi hz hs hby rfl (by decide) v n xs hown a rs.length cap (flat rs) (flat_length rs) hc (flat_one rs) (by unfold maxLen; omega) (by omega) hb
    exact ⟨v', w', hr, h2, h3, fun e => by rw [← hn]; exact (h4.1 e).1⟩
  rcases h with ⟨⟨a, cap, rfl, hcap⟩, rfl⟩ | ⟨b, off, cap, rfl, hb', hc⟩
  · cases a with
    | none =>
      obtain rfl := hcap rfl
      refine ⟨v, W, run_append_owned_none (P := Try.prog) (w := W) base 32 ty 31 i 2 Try.underlying32 hi v n xs hown, ?_, ⟨rfl, rfl, rfl, Nat.le_refl _, fun _ _ _ => rfl⟩, fun e => by rw [← hn]; exact e⟩
      simpa [flat] using hown
    | some a => exact some_case a cap (fun j u hj => by simp [flat] at hj)
  · exact some_case ⟨b, off, none⟩ cap (flat_row hc)
/-- at the operation. -/
theorem append_run {F : Fence} {nF : Nat} {P : Program} {w : World} {ops : Array Oper} {rest : List Oper} {o : Oper} {a : Act} {Q : Exit → Act → World → Prop} (hgd : o.guard = none) (s x : Operand) (t : TypeId)
    (ho : o.op = .call { callee := .builtin .append, args := #[s, x], argTypes := #[t, t] }) (v u v' : Value) (w' : World) (hs : a.eval s = v) (hx : a.eval x = u)
    (hr : (Builtin.append_ #[t, t] o.type #[v, u]).run P w = .ok v' w') (h : wpListIn F nF P ops Q rest (a.put o.dst v') w') :
    wpListIn F nF P ops Q (o :: rest) a w := by
  refine wpListIn_plain hgd fun K hK => ?_
  unfold Oper.wpIn
  refine ⟨by simp [Oper.about, ho, resolve, Target.leads, Sem.run_pure], ?_⟩
  rw [Oper.semAt_plain F _ _ (by rw [ho]; intro c hc'; cases hc')]
  simp [execOp, ho, resolve, invoke, builtin, hs, hx, hr, Result.andThen]
  exact hK _ _ h
end Go.Proofs.Ytlagnbbbokgdfaa.dbm
