/-
  What laws share: ints, a fraction and times that come in; rows of one's own that grow, in a drawn region too; boxes below a line that is no longer turned; each theorem names its conditions.
-/
import Derived.Test.YthljhijcmdnonaaDoorDbmD
import Derived.Test.YthljhijcmdnonaaDoorTightD
namespace Go.Proofs.YthljhijcmdnonaaDoor.plaw
open Go.Joins Go.ChangeShapes Go.WideShapes Go.ChangeAt Go.RowKit num dbm rat Go.Proofs.YthljhijcmdnonaaDoor.tight
open bound hiding up
set_option linter.unusedVariables false
set_option linter.unusedSimpArgs false

theorem blk_len {n₀ : Nat} {W : World} {aa : Option Addr} {la ca : Nat} {us : List Int} (h : Blk n₀ W aa la ca us) : la = us.length := by
  rcases h with ⟨_, rfl, _, rfl⟩ | ⟨_, _, _, h, _⟩
  · rfl
  · exact h

theorem int_ints {w : World} {g : Nat} {t : TypeId} {us : List Int} {cap : Nat} (h : lies.Lies w g t (cellsOf us)) : law.Ints w.heap.size w (.slice (some ⟨g, 0, none⟩) us.length cap) us :=
  .inr ⟨g, 0, cap, rfl, lies.lt h, fun j hj => by rw [Nat.zero_add]; exact (lies.cell h j).trans (cells_at us j hj)⟩
set_option maxRecDepth 100000 in
/-- a fraction by value. -/
theorem open_rat {H : Type} {enc : TypeId × Value → H} {W : World} {v : Value} {d : DataW H} {p : List MemPlace} {base : Nat}
    (hok : Value.okWide Tryd.prog W .any base 35 v) (h : DataW.Trod enc Tryd.prog W 0 (fun _ => true) true 35 v d p) :
    ∃ a b, v = .agg #[.int .i64 (a), .int .i64 (b)] ∧ (Lit.int .i64 a).wf = true ∧ (Lit.int .i64 b).wf = true := by
  obtain ⟨v0, v1, y0, y1, n, rfl, _, _, h0, h1⟩ := open_agg2 Tryd.underlying35 (by kernel_rfl) (by kernel_rfl) hok h
  obtain ⟨a, ha, _, wa⟩ := DataW.trod_int Tryd.underlying3 h0
  obtain ⟨b, hb, _, wb⟩ := DataW.trod_int Tryd.underlying3 h1
  simp only [List.cons.injEq, and_true] at ha hb
  subst ha hb
  exact ⟨a, b, rfl, wa, wb⟩

theorem wp_append_run {P : Program} {w : World} {o : Oper} {a : Act} {K : Act → World → Prop} {Q : Exit → Act → World → Prop} (s x : Operand) (t : TypeId)
    (ho : o.op = .call { callee := .builtin .append, args := #[s, x], argTypes := #[t, t] }) (v u v' : Value) (w' : World) (hs : a.eval s = v) (hx : a.eval x = u)
    (hr : (Builtin.append_ #[t, t] o.type #[v, u]).run P w = .ok v' w') (h : K (a.put o.dst v') w') : o.wp P a w K Q := by
  unfold Oper.wp execOp
  simp only [ho, resolve, invoke, builtin, Sem.run_bind, Sem.run_pure, Result.andThen_ok, List.map_toArray, List.map_cons, List.map_nil, hs, hx, hr]
  exact h
/-- append, of times to a row of one's own, or to none. -/
theorem app_any (base : Nat) (ty : TypeId) (v tv : Value) (n n₀ : Nat) (xs : List Value) (rs : List (Int × Int)) (W : World) (hown : W.ownsRow base 35 2 v n xs) (h : Rats n₀ W tv rs) (hm : n + rs.length ≤ 1000000) (hb : base ≤ W.heap.size) :
    ∃ v' w', (Builtin.append_ #[59, 59] ty #[v, tv]).run Tryd.prog W = .ok v' w' ∧ w'.ownsRow base 35 2 v' (n + rs.length) (xs ++ flat rs) ∧ W.grownBy w' v.ownBlock := by
  obtain ⟨i, hi, hz, hs, hby⟩ := info_parts info_r
  have some_case : ∀ (a : Addr) (cap : Nat), (∀ j u, (flat rs)[j]? = some u → W.cell? (a.add j) = some u) →
      ∃ v' w', (Builtin.append_ #[59, 59] ty #[v, .slice (some a) rs.length cap]).run Tryd.prog W = .ok v' w' ∧ w'.ownsRow base 35 2 v' (n + rs.length) (xs ++ flat rs) ∧ W.grownBy w' v.ownBlock := fun a cap hc => by
    obtain ⟨v', w', hr, h2, h3, h4, _⟩ := run_append_own_at (P := Tryd.prog) (w := W) base 59 ty 35 i _ 2 16 Tryd.underlying59 hi hz hs hby rfl (by decide) v n xs hown a rs.length cap (flat rs) (flat_length rs) hc (flat_one rs) (by unfold maxLen; omega) (by omega) hb
    exact ⟨v', w', hr, h2, h3⟩
  rcases h with ⟨⟨a, cap, rfl, hcap⟩, rfl⟩ | ⟨b, off, cap, rfl, hb', hc⟩
  · cases a with
    | none =>
      obtain rfl := hcap rfl
      refine ⟨v, W, run_append_owned_none (P := Tryd.prog) (w := W) base 59 ty 35 i 2 Tryd.underlying59 hi v n xs hown, ?_, ⟨rfl, rfl, rfl, Nat.le_refl _, fun _ _ _ => rfl⟩⟩
      simpa [flat] using hown
    | some a => exact some_case a cap (fun j u hj => by simp [flat] at hj)
  · exact some_case ⟨b, off, none⟩ cap (flat_row hc)
theorem own_nil (w : World) (t : TypeId) : (w.alloc (.cells #[] t)).ownsRow w.heap.size t 2 (.slice (some ⟨w.heap.size, 0, none⟩) 0 0) 0 [] :=
  ⟨rfl, .inr ⟨w.heap.size, 0, #[], rfl, Nat.le_refl _, World.alloc_heap_new w _, Nat.le_refl _, Nat.zero_le _, rfl, rfl⟩⟩
theorem own_nil_at (w : World) (t : TypeId) (g : Nat) (h : w.heap.size = g) : (w.alloc (.cells #[] t)).ownsRow g t 2 (.slice (some ⟨g, 0, none⟩) 0 0) 0 [] := h ▸ own_nil w t
/-- what lay, lies, where a row of one's own behind it has grown. -/
theorem held_grown {n base k s : Nat} {A W W' : World} {t : TypeId} {v : Value} {xs : List Value} (h : Below n A W) (hA : n ≤ W.heap.size) (ho : W.ownsRow base t s v k xs) (hb : n ≤ base) (hg : W.grownBy W' v.ownBlock) : Below n A W' :=
  h.grown hg hA (fun q e => Nat.le_trans hb (ho.lt q e).1)
/-- a row of one's own that holds times. -/
theorem rats_own {W : World} {base n : Nat} {v : Value} {rs : List (Int × Int)} (h : W.ownsRow base 35 2 v n (flat rs)) (hn : rs.length = n) : Rats W.heap.size W v rs := by
  subst hn
  rcases ownsRow_forms h with ⟨rfl, h0⟩ | ⟨g, cap, rfl⟩
  · exact .inl ⟨⟨none, 0, rfl, fun _ => rfl⟩, List.eq_nil_of_length_eq_zero h0⟩
  · exact .inr ⟨g, 0, cap, rfl, (h.lt g rfl).2, own_rowR h⟩
/-- a new block of one time. -/
theorem rats_one {W : World} {g : Nat} {a b : Int} (h : lies.Lies W g 35 #[.int .i64 a, .int .i64 b]) : Rats W.heap.size W (.slice (some ⟨g, 0, none⟩) 1 1) [(a, b)] :=
  .inr ⟨g, 0, 1, rfl, lies.lt h, fun k hk => by
    obtain rfl : k = 0 := by simp at hk; omega
    exact ⟨lies.cell h 0, lies.cell h 1⟩⟩
theorem flat_app (xs ys : List (Int × Int)) : flat (xs ++ ys) = flat xs ++ flat ys := by simp [flat]
theorem ints_app {rs : List (Int × Int)} {a b : Int} (h : IntsR rs) (ha : -9223372036854775808 ≤ a ∧ a ≤ 9223372036854775807) (hb : -9223372036854775808 ≤ b ∧ b ≤ 9223372036854775807) : IntsR (rs ++ [(a, b)]) := fun k hk => by
  by_cases e : k < rs.length
  · have : pr (rs ++ [(a, b)]) k = pr rs k := by unfold pr; rw [List.getElem?_append_left e]
    rw [this]
    exact h k e
  · obtain rfl : k = rs.length := by simp at hk; omega
    have : pr (rs ++ [(a, b)]) rs.length = (a, b) := by unfold pr; simp
    rw [this]
    exact ⟨ha, hb⟩
theorem grown_lies {W W' : World} {row : Option Nat} {g : Nat} {t : TypeId} {cs : Array Value} (h : lies.Lies W g t cs) (hg : W.grownBy W' row) (hne : some g ≠ row) : lies.Lies W' g t cs := (World.grownBy.block hg _ (lies.lt h) hne).trans h
/-- what lies below a line that is no longer turned: boxes, with what they hold. -/
def StN (n₀ : Nat) (bs : List tlaw.Bx) (w W : World) : Prop := Below w.heap.size w W ∧ w.heap.size ≤ n₀ ∧ n₀ ≤ W.heap.size ∧ ∀ b ∈ bs, b.1 < n₀ ∧ lies.Lies W b.1 58 #[.int .i64 b.2.1, b.2.2.1] ∧ law.Ints n₀ W b.2.2.1 b.2.2.2
theorem StN.of {bs : List tlaw.Bx} {w W : World} (h : tlaw.St bs w W) : StN W.heap.size bs w W := ⟨h.1, h.1.size, Nat.le_refl _, fun b hb => ⟨lies.lt (h.2 b hb).1, h.2 b hb⟩⟩
theorem StN.below {n₀ : Nat} {bs : List tlaw.Bx} {w W X : World} (h : StN n₀ bs w W) (k : Below n₀ W X) : StN n₀ bs w X :=
  ⟨h.1.trans (k.mono h.2.1), h.2.1, Nat.le_trans h.2.2.1 k.size, fun b hb => ⟨(h.2.2.2 b hb).1, (k.block _ (h.2.2.2 b hb).1).trans (h.2.2.2 b hb).2.1, (h.2.2.2 b hb).2.2.below k⟩⟩
theorem StN.back {n₀ : Nat} {bs : List tlaw.Bx} {w W : World} (h : StN n₀ bs w W) : tlaw.St bs w W := ⟨h.1, fun b hb => ⟨(h.2.2.2 b hb).2.1, (h.2.2.2 b hb).2.2.mono h.2.2.1⟩⟩
set_option maxRecDepth 100000 in
/-- times that come in have room for themselves. -/
theorem rats_cap {H : Type} {enc : TypeId × Value → H} {W : World} {v : Value} {d : DataW H} {p : List MemPlace} {base : Nat}
    (hok : Value.okWide Tryd.prog W .any base 59 v) (h : DataW.Trod enc Tryd.prog W 0 (fun _ => true) true 59 v d p) :
    ∀ a l c, v = .slice a l c → l ≤ c := by
  obtain ⟨a0, len, cap, rfl⟩ := okWide_slice Tryd.underlying59 hok
  obtain ⟨fuel, hf⟩ := h
  intro a l c e
  injection e with e1 e2 e3
  subst e2
  subst e3
  rcases slice_fields Tryd.underlying59 Tryd.underlying35 (by kernel_rfl) (by kernel_rfl) hf with hcs | ⟨a', len', cap', m, hcs, hl, _⟩
  · simp [Value.cells] at hcs
    obtain ⟨_, rfl, rfl⟩ := hcs
    exact Nat.le_refl _
  · simp [Value.cells] at hcs
    obtain ⟨_, rfl, rfl⟩ := hcs
    exact hl
theorem rats_take {W : World} {b off cap : Nat} {rs : List (Int × Int)} {n₀ : Nat} (h : RowR W b off rs) (hb : b < n₀) (k : Nat) (hk : k ≤ rs.length) : Rats n₀ W (.slice (some ⟨b, off, none⟩) k cap) (rs.take k) := by
  have hl : (rs.take k).length = k := by simp; omega
  refine .inr ⟨b, off, cap, by rw [hl], hb, fun j hj => ?_⟩
  have e : pr (rs.take k) j = pr rs j := by unfold pr; rw [List.getElem?_take, if_pos (by omega)]
  rw [e]
  exact h j (by omega)
theorem rats_drop {W : World} {b off cap : Nat} {rs : List (Int × Int)} {n₀ : Nat} (h : RowR W b off rs) (hb : b < n₀) (k : Nat) : Rats n₀ W (.slice (some ⟨b, off + k * 2, none⟩) (rs.length - k) cap) (rs.drop k) := by
  have hl : (rs.drop k).length = rs.length - k := by simp
  refine .inr ⟨b, off + k * 2, cap, by rw [hl], hb, fun j hj => ?_⟩
  have e : pr (rs.drop k) j = pr rs (k + j) := by unfold pr; rw [List.getElem?_drop]
  have o : off + k * 2 + j * 2 = off + (k + j) * 2 := by omega
  rw [e, o]
  exact h (k + j) (by omega)
theorem info_i : (Tryd.prog.info? 3).map (fun i => (i.zero, i.size, i.bytes)) = some (some (.int .i64 0), 1, 8) := by kernel_rfl
/-- a row of one's own that holds ints. -/
theorem ints_row {W : World} {base n : Nat} {E : TypeId} {v : Value} {us : List Int} (h : W.ownsRow base E 1 v n (us.map (Value.int .i64))) (hl : us.length = n) : law.Ints W.heap.size W v us := by
  subst hl
  rcases ownsRow_forms h with ⟨rfl, h0⟩ | ⟨g, cap, rfl⟩
  · exact .inl ⟨⟨none, 0, rfl, fun _ => rfl⟩, List.eq_nil_of_length_eq_zero h0⟩
  · refine .inr ⟨g, 0, cap, rfl, (h.lt g rfl).2, fun j hj => ?_⟩
    rw [Nat.zero_add, h.cellAt j (by omega), List.getElem?_map, List.getElem?_eq_getElem hj]
    rfl
end Go.Proofs.YthljhijcmdnonaaDoor.plaw
