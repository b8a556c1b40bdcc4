
/-
  Zones in a row: as an argument, as a row of one's own, append; each theorem names its conditions.
-/
import Derived.Test.YthljhijcmdnonaaGreatDoorZoneF
import Derived.Test.YthljhijcmdnonaaGreatDoorLawA
namespace Go.Proofs.YthljhijcmdnonaaGreatDoor.mz
open Go.Joins Go.ChangeShapes Go.WideShapes Go.ChangeAt Go.RowKit Go.Deep num rat dbm Go.Proofs.YthljhijcmdnonaaGreatDoor.tight Go.Proofs.YthljhijcmdnonaaGreatDoor.incl Go.Proofs.YthljhijcmdnonaaGreatDoor.plaw Go.Proofs.YthljhijcmdnonaaGreatDoor.zopen Go.Proofs.YthljhijcmdnonaaGreatDoor.zone
open bound hiding up
set_option linter.unusedVariables false
set_option linter.unusedSimpArgs false

/-- the zone at a place. -/
def zat (zs : List (List Int)) (k : Nat) : List Int := zs[k]?.getD []
/-- a zone's cells. -/
def zcs (z : List Int) : List Value := [.int .i64 (z[0]?.getD 0), .int .i64 (z[1]?.getD 0), .int .i64 (z[2]?.getD 0), .int .i64 (z[3]?.getD 0), .int .i64 (z[4]?.getD 0), .int .i64 (z[5]?.getD 0)]
def zval (z : List Int) : Value := .agg #[.int .i64 (z[0]?.getD 0), .int .i64 (z[1]?.getD 0), .int .i64 (z[2]?.getD 0), .int .i64 (z[3]?.getD 0), .int .i64 (z[4]?.getD 0), .int .i64 (z[5]?.getD 0)]
theorem zcs_at (z : List Int) {j : Nat} (hj : j < 6) : (zcs z)[j]? = some (.int .i64 (z[j]?.getD 0)) := by
  rcases (by omega : j = 0 ∨ j = 1 ∨ j = 2 ∨ j = 3 ∨ j = 4 ∨ j = 5) with rfl | rfl | rfl | rfl | rfl | rfl <;> rfl
/-- zones in a row. -/
def RowZs (W : World) (b off : Nat) (zs : List (List Int)) : Prop := ∀ k, k < zs.length → ∀ j, j < 6 → W.cell? ⟨b, off + k * 6 + j, none⟩ = some (.int .i64 ((zat zs k)[j]?.getD 0))
theorem RowZs.below {n : Nat} {W X : World} {b off : Nat} {zs : List (List Int)} (h : RowZs W b off zs) (k : Below n W X) (hb : b < n) : RowZs X b off zs := fun i hi j hj => (k.cell (p := ⟨b, off + i * 6 + j, none⟩) hb).trans (h i hi j hj)
/-- the slice value sv holds the zones zs, in a block below n₀; or there are none. -/
def Zs (n₀ : Nat) (W : World) (sv : Value) (zs : List (List Int)) : Prop :=
  ((∃ a cap, sv = .slice a 0 cap ∧ (a = none → cap = 0)) ∧ zs = []) ∨ ∃ b off cap, sv = .slice (some ⟨b, off, none⟩) zs.length cap ∧ b < n₀ ∧ RowZs W b off zs
theorem Zs.below {n₀ : Nat} {A B : World} (h : Below n₀ A B) {sv : Value} {zs : List (List Int)} : Zs n₀ A sv zs → Zs n₀ B sv zs
  | .inl e => .inl e
  | .inr ⟨b, off, cap, e, hb, hc⟩ => .inr ⟨b, off, cap, e, hb, hc.below h hb⟩
theorem Zs.mono {n₀ n₁ : Nat} {A : World} (h : n₀ ≤ n₁) {sv : Value} {zs : List (List Int)} : Zs n₀ A sv zs → Zs n₁ A sv zs
  | .inl e => .inl e
  | .inr ⟨b, off, cap, e, hb, hc⟩ => .inr ⟨b, off, cap, e, Nat.lt_of_lt_of_le hb h, hc⟩
theorem Zs.on {A B : World} {sv : Value} {zs : List (List Int)} (h : Zs A.heap.size A sv zs) (k : Below A.heap.size A B) : Zs B.heap.size B sv zs := (h.below k).mono k.size
theorem zs_len {n₀ : Nat} {W : World} {sv : Value} {zs : List (List Int)} (h : Zs n₀ W sv zs) : ∃ a cap, sv = .slice a zs.length cap := by
  rcases h with ⟨⟨a, cap, rfl, _⟩, rfl⟩ | ⟨b, off, cap, rfl, _⟩
  · exact ⟨_, _, rfl⟩
  · exact ⟨_, _, rfl⟩
/-- the cells of a zone in a row. -/
theorem zs_at {n₀ : Nat} {W : World} {a : Option Addr} {len cap : Nat} {zs : List (List Int)} (h : Zs n₀ W (.slice a len cap) zs) {k : Nat} (hk : k < zs.length) :
    ∃ b off, a = some ⟨b, off, none⟩ ∧ len = zs.length ∧ b < n₀ ∧ W.cell? ⟨b, off + k * 6, none⟩ = some (.int .i64 ((zat zs k)[0]?.getD 0)) ∧ W.cell? ⟨b, off + k * 6 + 1, none⟩ = some (.int .i64 ((zat zs k)[1]?.getD 0)) ∧ W.cell? ⟨b, off + k * 6 + 2, none⟩ = some (.int .i64 ((zat zs k)[2]?.getD 0)) ∧
      W.cell? ⟨b, off + k * 6 + 3, none⟩ = some (.int .i64 ((zat zs k)[3]?.getD 0)) ∧ W.cell? ⟨b, off + k * 6 + 4, none⟩ = some (.int .i64 ((zat zs k)[4]?.getD 0)) ∧ W.cell? ⟨b, off + k * 6 + 5, none⟩ = some (.int .i64 ((zat zs k)[5]?.getD 0)) := by
  rcases h with ⟨_, rfl⟩ | ⟨b, off, c, e, hb, hc⟩
  · simp at hk
  · injection e with e1 e2 e3
    exact ⟨b, off, e1, e2, hb, hc k hk 0 (by decide), hc k hk 1 (by decide), hc k hk 2 (by decide), hc k hk 3 (by decide), hc k hk 4 (by decide), hc k hk 5 (by decide)⟩

/-! as an argument -/
section
variable {H : Type} {enc : TypeId × Value → H} {w : World} {base : Nat} {spare : Nat → Bool} {held : Bool}
end
/-- six bounds each. -/
def Wf6 (zs : List (List Int)) : Prop := ∀ z, z ∈ zs → z.length = 6 ∧ ∀ x, x ∈ z → -9223372036854775808 ≤ x ∧ x ≤ 9223372036854775807
theorem zat_mem {zs : List (List Int)} {k : Nat} (h : k < zs.length) : zat zs k ∈ zs := by
  unfold zat
  rw [List.getElem?_eq_getElem h]
  exact List.getElem_mem h
/-! as a row of one's own -/
def flatZ (zs : List (List Int)) : List Value := zs.flatMap zcs
theorem flatZ_cons (z : List Int) (zs : List (List Int)) : flatZ (z :: zs) = zcs z ++ flatZ zs := rfl
theorem flatZ_app (xs ys : List (List Int)) : flatZ (xs ++ ys) = flatZ xs ++ flatZ ys := by simp [flatZ]
theorem flatZ_one (z : List Int) : flatZ [z] = zcs z := by simp [flatZ]
theorem flatZ_length (zs : List (List Int)) : (flatZ zs).length = zs.length * 6 := by
  induction zs with
  | nil => rfl
  | cons z zs ih =>
    rw [flatZ_cons, List.length_append, ih, List.length_cons]
    show 6 + zs.length * 6 = _
    omega
theorem flatZ_at (zs : List (List Int)) (k j : Nat) (h : k < zs.length) (hj : j < 6) : (flatZ zs)[k * 6 + j]? = some (.int .i64 ((zat zs k)[j]?.getD 0)) := by
  induction zs generalizing k with
  | nil => simp at h
  | cons z zs ih =>
    have l6 : (zcs z).length = 6 := rfl
    rw [flatZ_cons]
    cases k with
    | zero => rw [Nat.zero_mul, Nat.zero_add, List.getElem?_append_left (by omega), zcs_at z hj]; rfl
    | succ k =>
      rw [List.getElem?_append_right (by omega), l6, show (k + 1) * 6 + j - 6 = k * 6 + j by omega, ih k (by simpa using h)]
      simp [zat]
theorem flatZ_each (zs : List (List Int)) : ∀ u ∈ flatZ zs, u.oneCell' = true := fun u hu => by
  obtain ⟨z, _, hz⟩ := List.mem_flatMap.1 hu
  simp only [zcs, List.mem_cons, List.not_mem_nil, or_false] at hz
  rcases hz with rfl | rfl | rfl | rfl | rfl | rfl <;> rfl
theorem flatZ_row {W : World} {b off : Nat} {zs : List (List Int)} (h : RowZs W b off zs) (j : Nat) (v : Value) (hj : (flatZ zs)[j]? = some v) : W.cell? ((⟨b, off, none⟩ : Addr).add j) = some v := by
  have hl : j < zs.length * 6 := by
    rw [← flatZ_length]
    exact (List.getElem?_eq_some_iff.1 hj).1
  rw [Go.WideShapes.add_plain]
  have e : j / 6 * 6 + j % 6 = j := by omega
  have a := h (j / 6) (by omega) (j % 6) (by omega)
  have c := flatZ_at zs (j / 6) (j % 6) (by omega) (by omega)
  rw [Nat.add_assoc, e] at a
  rw [e] at c
  rw [a, ← c, hj]
/-- a row of one's own that holds zones. -/
theorem zs_own {W : World} {base n : Nat} {v : Value} {zs : List (List Int)} (h : W.ownsRow base 24 6 v n (flatZ zs)) : Zs W.heap.size W v zs := by
  have hn : zs.length = n := by have := h.1; rw [flatZ_length] at this; omega
  subst hn
  rcases ownsRow_forms h with ⟨rfl, h0⟩ | ⟨g, cap, rfl⟩
  · exact .inl ⟨⟨none, 0, rfl, fun _ => rfl⟩, List.eq_nil_of_length_eq_zero h0⟩
  · refine .inr ⟨g, 0, cap, rfl, (h.lt g rfl).2, fun k hk j hj => ?_⟩
    have := h.cellAt (k * 6 + j) (by omega)
    rw [Nat.zero_add]
    rw [this, flatZ_at zs k j hk hj]
theorem info_z : (Tryz.prog.info? 24).map (fun i => (i.zero, i.size, i.bytes)) = some (some (.agg #[.int .i64 0, .int .i64 0, .int .i64 0, .int .i64 0, .int .i64 0, .int .i64 0]), 6, 48) := by kernel_rfl
/-- append, of zones to a row of one's own, or to none. -/
theorem app_zones (base : Nat) (ty : TypeId) (v tv : Value) (n n₀ : Nat) (xs : List Value) (zs : List (List Int)) (W : World) (hown : W.ownsRow base 24 6 v n xs) (h : Zs n₀ W tv zs) (hm : n + zs.length ≤ 1000000) (hb : base ≤ W.heap.size) :
    ∃ v' w', (Builtin.append_ #[26, 26] ty #[v, tv]).run Tryz.prog W = .ok v' w' ∧ w'.ownsRow base 24 6 v' (n + zs.length) (xs ++ flatZ zs) ∧ W.grownBy w' v.ownBlock ∧ (v'.ownBlock = v.ownBlock ∨ v'.ownBlock = some W.heap.size) := by
  obtain ⟨i, hi, hz, hs, hby⟩ := info_parts info_z
  have some_case : ∀ (a : Addr) (cap : Nat), (∀ j u, (flatZ zs)[j]? = some u → W.cell? (a.add j) = some u) →
      ∃ v' w', (Builtin.append_ #[26, 26] ty #[v, .slice (some a) zs.length cap]).run Tryz.prog W = .ok v' w' ∧ w'.ownsRow base 24 6 v' (n + zs.length) (xs ++ flatZ zs) ∧ W.grownBy w' v.ownBlock ∧ (v'.ownBlock = v.ownBlock ∨ v'.ownBlock = some W.heap.size) := fun a cap hc => by
    obtain ⟨v', w', hr, h2, h3, _, h5⟩ := run_append_own_at (P := Tryz.prog) (w := W) base 26 ty 24 i _ 6 48 Tryz.underlying26 hi hz hs hby rfl (by decide) v n xs hown a zs.length cap (flatZ zs) (flatZ_length zs) hc (flatZ_each zs) (by unfold maxLen; omega) (by omega) hb
    exact ⟨v', w', hr, h2, h3, h5⟩
  rcases h with ⟨⟨a, cap, rfl, hcap⟩, rfl⟩ | ⟨b, off, cap, rfl, hb', hc⟩
  · cases a with
    | none =>
      obtain rfl := hcap rfl
      refine ⟨v, W, run_append_owned_none (P := Tryz.prog) (w := W) base 26 ty 24 i 6 Tryz.underlying26 hi v n xs hown, ?_, ⟨rfl, rfl, rfl, Nat.le_refl _, fun _ _ _ => rfl⟩, .inl rfl⟩
      simpa [flatZ] using hown
    | some a => exact some_case a cap (fun j u hj => by simp [flatZ] at hj)
  · exact some_case ⟨b, off, none⟩ cap (flatZ_row hc)
/-- a box of one zone, as a row. -/
theorem zs_box {W : World} {g : Nat} {z0 z1 z2 z3 z4 z5 : Int} (h : lies.Lies W g 24 #[.int .i64 z0, .int .i64 z1, .int .i64 z2, .int .i64 z3, .int .i64 z4, .int .i64 z5]) : Zs W.heap.size W (.slice (some ⟨g, 0, none⟩) 1 1) [[z0, z1, z2, z3, z4, z5]] := by
  obtain ⟨⟨c0, c1, c2, c3, c4, c5⟩, _⟩ := six_cells h
  refine .inr ⟨g, 0, 1, rfl, lies.lt h, fun k hk j hj => ?_⟩
  obtain rfl : k = 0 := by simp at hk; omega
  rcases (by omega : j = 0 ∨ j = 1 ∨ j = 2 ∨ j = 3 ∨ j = 4 ∨ j = 5) with rfl | rfl | rfl | rfl | rfl | rfl
  · exact c0
  · exact c1
  · exact c2
  · exact c3
  · exact c4
  · exact c5
theorem own_nil6 (w : World) (t : TypeId) : (w.alloc (.cells #[] t)).ownsRow w.heap.size t 6 (.slice (some ⟨w.heap.size, 0, none⟩) 0 0) 0 [] :=
  ⟨rfl, .inr ⟨w.heap.size, 0, #[], rfl, Nat.le_refl _, World.alloc_heap_new w _, Nat.le_refl _, Nat.zero_le _, rfl, rfl⟩⟩
end Go.Proofs.YthljhijcmdnonaaGreatDoor.mz
