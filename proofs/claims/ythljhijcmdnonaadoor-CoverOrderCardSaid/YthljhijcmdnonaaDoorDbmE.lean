/-
  The document's own answers of layer 4 (rallentandoref04), and dbm.Same and Twin of any matrix; each theorem names its conditions.
-/
import Derived.Test.YthljhijcmdnonaaDoorDbmC
import Derived.Test.YthljhijcmdnonaaDoorBase
import Derived.Test.YthljhijcmdnonaaDoorDbmB
import Derived.BigQuiet
import Derived.Test.YthljhijcmdnonaaDoorDbmD
import Derived.Test.YthljhijcmdnonaaDoorRatC
import Derived.Test.YthljhijcmdnonaaDoorDbmA
import Derived.Deep.OwnRows
import Derived.Laws.CopyOwn
import Derived.WalkSpells
namespace Go.Proofs.YthljhijcmdnonaaDoor.dref
open Go.ChangeShapes Go.WideShapes Go.ChangeAt Go.RowKit num dbm
open bound hiding up
set_option linter.unusedVariables false

/-- ints. -/
def Low (ts : List Int) : Prop := ∀ x ∈ ts, -9223372036854775808 ≤ x
theorem low_at {ts : List Int} (h : Low ts) {k : Nat} (hk : k < ts.length) : -9223372036854775808 ≤ ts[k]?.getD 0 := by
  rw [List.getElem?_eq_getElem hk]
  exact h _ (List.getElem_mem hk)
theorem high_at {ts : List Int} (h : ∀ x ∈ ts, x ≤ 9223372036854775807) {k : Nat} (hk : k < ts.length) : ts[k]?.getD 0 ≤ 9223372036854775807 := by
  rw [List.getElem?_eq_getElem hk]
  exact h _ (List.getElem_mem hk)

end Go.Proofs.YthljhijcmdnonaaDoor.dref

namespace Go.Proofs.YthljhijcmdnonaaDoor.dref
open Go.ChangeShapes Go.WideShapes Go.ChangeAt Go.RowKit num dbm
open bound hiding up
set_option linter.unusedVariables false
set_option linter.unusedSimpArgs false

/-- a weight's bound. -/
def dec : way.B → Int
  | none => 9223372036854775807
  | some a => a
theorem dec_cod (b : Int) : dec (cod b) = b := by
  by_cases h : b = 9223372036854775807
  · rw [h, cod_none]; rfl
  · rw [cod_some h]; rfl
theorem cod_dec {x : way.B} {k : Int} (hk : k ≤ 4) (h : way.Wi 288230376151711744 k x) : cod (dec x) = x := by
  cases x with
  | none => exact cod_none
  | some a =>
    obtain ⟨h1, h2⟩ := h
    exact cod_some (by show a ≠ _; omega)
theorem place_int {n i j : Nat} (hn : n ≤ 4) (hi : i < n) (hj : j < n) : IntKind.i64.wrap ((i : Int) * n) = (i : Int) * n ∧ wrap64 ((i : Int) * n) = (i : Int) * n ∧ IntKind.i64.wrap ((i : Int) * n + j) = (i : Int) * n + j ∧ wrap64 ((i : Int) * n + j) = (i : Int) * n + j ∧ 0 ≤ (i : Int) * n + j ∧ (i : Int) * n + j < (n : Int) * n ∧ ((i : Int) * n + j).toNat = i * n + j := by
  have h1 := place_le hn hi hj
  have h2 := sq_le hn
  have e1 : (i : Int) * n = ((i * n : Nat) : Int) := (Int.natCast_mul i n).symm
  have e2 : (n : Int) * n = ((n * n : Nat) : Int) := (Int.natCast_mul n n).symm
  rw [e1, e2]
  generalize i * n = a at h1 ⊢
  generalize n * n = b at h1 h2 ⊢
  refine ⟨dbm.wrap_small (by omega) (by omega), ?_, dbm.wrap_small (by omega) (by omega), ?_, by omega, by omega, by omega⟩ <;> (unfold wrap64; omega)
theorem up_int {n i : Nat} (hn : n ≤ 4) (hi : i < n) : wrap64 ((i : Int) + 1) = (i : Int) + 1 ∧ IntKind.i64.wrap ((i : Int) + 1) = (i : Int) + 1 := by
  refine ⟨?_, IntWalk.i64_in _ (by omega)⟩
  unfold wrap64; omega

/-- a matrix in memory that may be. -/
def MatI (n b off : Nat) (ts : List Int) (W : World) : Prop := Row W b off ts ∧ b < W.heap.size
theorem MatI.below {n b off : Nat} {ts : List Int} {W X : World} (h : MatI n b off ts W) (k : Below W.heap.size W X) : MatI n b off ts X := ⟨h.1.below k h.2, Nat.lt_of_lt_of_le h.2 k.size⟩

theorem bit_of (left : Nat) (hl : left < 16) (m : Nat) (hm : m < 4) : bits .and .i64 ((left : Int) / 2 ^ m) 1 = if left.testBit m = true then 1 else 0 := by
  have all : ∀ left : Nat, left < 16 → ∀ m : Nat, m < 4 → ((left : Int) / 2 ^ m) % 2 = (if left.testBit m = true then 1 else 0) ∧ 0 ≤ (left : Int) / 2 ^ m ∧ (left : Int) / 2 ^ m ≤ 15 := by decide +kernel
  obtain ⟨h1, h2, h3⟩ := all left hl m hm
  rw [bits_one _ (by omega) (by omega)]
  exact h1
theorem pow_of (m : Nat) (hm : m < 4) : IntKind.i64.wrap ((2 : Int) ^ m) = ((2 ^ m : Nat) : Int) := by
  have all : ∀ m, m < 4 → IntKind.i64.wrap ((2 : Int) ^ m) = ((2 ^ m : Nat) : Int) := by decide +kernel
  exact all m hm
theorem sub_bit {left m : Nat} (hl : left < 16) (hT : left.testBit m = true) : (left : Int) - ((2 ^ m : Nat) : Int) = ((left - 2 ^ m : Nat) : Int) ∧ wrap64 ((left - 2 ^ m : Nat) : Int) = ((left - 2 ^ m : Nat) : Int) ∧ IntKind.i64.wrap ((left - 2 ^ m : Nat) : Int) = ((left - 2 ^ m : Nat) : Int) := by
  have hge : 2 ^ m ≤ left := Nat.ge_two_pow_of_testBit hT
  generalize 2 ^ m = P at hge ⊢
  refine ⟨by omega, ?_, dbm.wrap_small (by omega) (by omega)⟩
  unfold wrap64; omega
theorem dec_le {x : way.B} {k : Int} (hk : k ≤ 4) (h : way.Wi 288230376151711744 k x) : dec x ≤ 9223372036854775807 := by
  cases x with
  | none => exact Int.le_refl _
  | some a => obtain ⟨h1, h2⟩ := h; show a ≤ _; omega
theorem dec_rng {x : way.B} {k : Int} (hk : k ≤ 4) (h : way.Wi 288230376151711744 k x) : Rng (dec x) := rng_wi hk (by rw [cod_dec hk h]; exact h)
theorem dec_mn {x y : way.B} {k : Int} (hk : k ≤ 4) (hx : way.Wi 288230376151711744 k x) (hy : way.Wi 288230376151711744 k y) : dec (way.mn x y) = if dec y < dec x then dec y else dec x := by
  have h := cod_le (dec_le hk hx) (dec_le hk hy)
  rw [cod_dec hk hx, cod_dec hk hy] at h
  unfold way.mn
  by_cases e : way.le x y
  · rw [if_pos e, if_neg (fun k => by have := h.1 e; omega)]
  · rw [if_neg e, if_pos (Decidable.byContradiction fun k => e (h.2 (by omega)))]

end Go.Proofs.YthljhijcmdnonaaDoor.dref

namespace Go.Proofs.YthljhijcmdnonaaDoor.dref
open Go.ChangeShapes Go.WideShapes Go.ChangeAt Go.RowKit num dbm
open bound hiding up
set_option linter.unusedVariables false
set_option linter.unusedSimpArgs false

theorem wts_wi {n : Nat} {ts : List Int} (hl : ts.length = n * n) (hn : n ≤ 4) (hf : ∀ p, p < ts.length → Fine (ts[p]?.getD 0)) (i j : Nat) : way.Wi 288230376151711744 1 (wts n ts i j) := by
  by_cases h : i < n ∧ j < n
  · rw [wts_in h.1 h.2]; exact wi_fine (fine_at hl hn hf h.1 h.2)
  · have : wts n ts i j = none := if_neg h
    rw [this]; trivial
/-- the way by each clock once. -/
def pwc (n : Nat) (ts : List Int) (i j : Nat) : way.B := way.pw (wts n ts) n j 15 (way.but n i) i
/-- the first p of the closed one. -/
def clP (n : Nat) (ts : List Int) (p : Nat) : List Int := (List.range p).map fun k => if k / n = k % n then 1 else dec (pwc n ts (k / n) (k % n))
theorem clP_length (n : Nat) (ts : List Int) (p : Nat) : (clP n ts p).length = p := by simp [clP]
theorem clP_yes {n i : Nat} {ts : List Int} (h : i < n) : clP n ts (i * n + i + 1) = clP n ts (i * n + i) ++ [1] := by
  unfold clP
  rw [List.range_succ, List.map_append, List.map_singleton]
  have e1 : (i * n + i) / n = i := by rw [Nat.mul_comm, Nat.mul_add_div (by omega), Nat.div_eq_of_lt h]; rfl
  have e2 : (i * n + i) % n = i := by rw [Nat.mul_comm, Nat.mul_add_mod, Nat.mod_eq_of_lt h]
  rw [e1, e2, if_pos rfl]
theorem clP_no {n i j : Nat} {ts : List Int} (h : j < n) (hne : i ≠ j) : clP n ts (i * n + j + 1) = clP n ts (i * n + j) ++ [dec (pwc n ts i j)] := by
  unfold clP
  rw [List.range_succ, List.map_append, List.map_singleton]
  have e1 : (i * n + j) / n = i := by rw [Nat.mul_comm, Nat.mul_add_div (by omega), Nat.div_eq_of_lt h]; rfl
  have e2 : (i * n + j) % n = j := by rw [Nat.mul_comm, Nat.mul_add_mod, Nat.mod_eq_of_lt h]
  rw [e1, e2, if_neg hne]

/-- what lies there while it is made. -/
def ClI (n b off cap p : Nat) (ts : List Int) (w W : World) : Prop := ∃ a l c, lies.Lies W w.heap.size 58 #[.int .i64 n, .slice (some ⟨b, off, none⟩) (n * n) cap] ∧ lies.Lies W (w.heap.size + 1) 58 #[.int .i64 0, .slice none 0 0] ∧ lies.Lies W (w.heap.size + 1 + 1) 58 #[.int .i64 n, .slice a l c] ∧ W.ownsRow (w.heap.size + 1 + 1 + 1) 29 1 (.slice a l c) p ((clP n ts p).map (Value.int .i64)) ∧ Below w.heap.size w W
theorem ClI.below {n b off cap p : Nat} {ts : List Int} {w W X : World} (h : ClI n b off cap p ts w W) (k : Below W.heap.size W X) : ClI n b off cap p ts w X := by
  obtain ⟨a, l, c, h1, h2, h3, h4, h5⟩ := h
  refine ⟨a, l, c, lies.on_call h1 k, lies.on_call h2 k, lies.on_call h3 k, ?_, h5.trans (k.mono h5.size)⟩
  exact h4.kept (row := none) ⟨k.os, k.tape, k.output, k.size, fun i hi _ => k.block i hi⟩ (by cases (Value.slice a l c).ownBlock <;> simp)
theorem ClI.grows {n p : Nat} {w W X : World} {a : Option Addr} {l c : Nat} {v' : Value} {x : Int} {us : List Int} {C0 : Array Value} (h0 : lies.Lies W w.heap.size 58 C0) (h1 : lies.Lies W (w.heap.size + 1) 58 #[.int .i64 0, .slice none 0 0]) (h2 : lies.Lies W (w.heap.size + 1 + 1) 58 #[.int .i64 n, .slice a l c]) (hB : Below w.heap.size w W)
    (ho : W.ownsRow (w.heap.size + 1 + 1 + 1) 29 1 (.slice a l c) p (us.map (Value.int .i64))) (hown : X.ownsRow (w.heap.size + 1 + 1 + 1) 29 1 v' (p + 1) (us.map (Value.int .i64) ++ [.int .i64 x])) (hg : (W.alloc (.cells #[.int .i64 x] 29)).grownBy X (Value.slice a l c).ownBlock) :
    ∃ a' l' c', v' = .slice a' l' c' ∧ lies.Lies X w.heap.size 58 C0 ∧ lies.Lies X (w.heap.size + 1) 58 #[.int .i64 0, .slice none 0 0] ∧ lies.Lies X (w.heap.size + 1 + 1) 58 #[.int .i64 n, .slice a l c] ∧ Below w.heap.size w X := by
  have hs : ∀ k, (Value.slice a l c).ownBlock = some k → w.heap.size + 1 + 1 + 1 ≤ k := fun k hk => (ho.lt k hk).1
  have b0 := lies.on_alloc h0 (.cells #[.int .i64 x] 29)
  have b1 := lies.on_alloc h1 (.cells #[.int .i64 x] 29)
  have b2 := lies.on_alloc h2 (.cells #[.int .i64 x] 29)
  have e : ∃ a' l' c', v' = .slice a' l' c' := by
    rcases Go.Joins.ownsRow_forms hown with ⟨rfl, _⟩ | ⟨g, cap, rfl⟩
    · exact ⟨_, _, _, rfl⟩
    · exact ⟨_, _, _, rfl⟩
  obtain ⟨a', l', c', rfl⟩ := e
  refine ⟨a', l', c', rfl, (hg.block _ (lies.lt b0) (fun e => by have := hs _ e.symm; omega)).trans b0, (hg.block _ (lies.lt b1) (fun e => by have := hs _ e.symm; omega)).trans b1, (hg.block _ (lies.lt b2) (fun e => by have := hs _ e.symm; omega)).trans b2, ?_⟩
  exact (hB.alloc hB.size _).grown hg (by have := hB.size; simp; omega) (fun k e => by have := hs k e; omega)

theorem but_of {n i : Nat} (hn : n ≤ 4) (hi : i < n) : bits .andNot .i64 (wrap64 (wrap64 ((2 : Int) ^ n) - 1)) (wrap64 ((2 : Int) ^ i)) = ((way.but n i : Nat) : Int) := by
  have all : ∀ n, n < 5 → ∀ i, i < n → bits .andNot .i64 (wrap64 (wrap64 ((2 : Int) ^ n) - 1)) (wrap64 ((2 : Int) ^ i)) = ((way.but n i : Nat) : Int) := by decide +kernel
  exact all n (by omega) i hi
theorem one_le {x : way.B} {k : Int} (hk : k ≤ 4) (h : way.Wi 288230376151711744 k x) : way.le way.one x ↔ 1 ≤ dec x := by
  have := cod_le (a := 1) (b := dec x) (by decide) (dec_le hk h)
  rw [cod_dec hk h, cod_some (by decide : (1 : Int) ≠ 9223372036854775807)] at this
  exact this
theorem pwc_wi {n : Nat} {ts : List Int} (hl : ts.length = n * n) (hn : n ≤ 4) (hf : ∀ p, p < ts.length → Fine (ts[p]?.getD 0)) {i j : Nat} (hi : i < n) (hj : j < n) : way.Wi 288230376151711744 4 (pwc n ts i j) :=
  way.wi_more (by decide) (by omega) (way.pw_wi hn (by decide) hj (wts_wi hl hn hf) (by have := (way.but16 n hn i hi).1; omega) (way.but16 n hn i hi).1)

/-- what Closed answers. -/
def CldR (n : Nat) (ts : List Int) (w : World) (e : Ending) (w' : World) : Prop := Below w.heap.size w w' ∧
  ((∃ x, x < n ∧ ¬ way.le way.one (pwc n ts x x)) ∧ e = .returned (.tuple #[.agg #[.int .i64 0, .slice none 0 0], .bool false]) ∨
   (∀ x, x < n → way.le way.one (pwc n ts x x)) ∧ ∃ v, e = .returned (.tuple #[.agg #[.int .i64 n, v], .bool true]) ∧ w'.ownsRow w.heap.size 29 1 v (n * n) ((clP n ts (n * n)).map (Value.int .i64)))

end Go.Proofs.YthljhijcmdnonaaDoor.dref

namespace Go.Proofs.YthljhijcmdnonaaDoor.dref
open Go.ChangeShapes Go.WideShapes Go.ChangeAt Go.RowKit num dbm
open bound hiding up
set_option linter.unusedVariables false
set_option linter.unusedSimpArgs false

section
variable {n : Nat} {ts : List Int}
theorem off_same (hl : ts.length = n * n) (hn : n ≤ 4) (i j : Nat) (h : i ≠ j) : wts n ts i j = beg n ts i j := by
  unfold beg
  by_cases k : i < n ∧ j < n
  · rw [wts_in k.1 k.2, wts_in k.1 k.2, beg_at hl hn k.1 k.2, if_neg h]
  · exact (if_neg k).trans (if_neg k).symm
theorem diag_is (hl : ts.length = n * n) (hn : n ≤ 4) (htop : Tops ts) {i : Nat} (hi : i < n) : beg n ts i i = way.mn (wts n ts i i) way.one := by
  unfold beg
  rw [wts_in hi hi, wts_in hi hi, beg_at hl hn hi hi, if_pos rfl, cod_lsr (tat_top htop n i i) (by decide)]
  rfl
theorem diag_up (hl : ts.length = n * n) (hn : n ≤ 4) (htop : Tops ts) (i : Nat) (hi : i < n) (h : way.le way.one (wts n ts i i)) : way.le way.one (beg n ts i i) := by
  rw [diag_is hl hn htop hi]; exact way.le_mn h (way.le_refl _)
theorem diag_down (hl : ts.length = n * n) (hn : n ≤ 4) (htop : Tops ts) (i : Nat) (hi : i < n) (h : way.le way.one (beg n ts i i)) : way.le way.one (wts n ts i i) := by
  rw [diag_is hl hn htop hi] at h; exact way.le_trans h (way.mn_left _ _)
/-- it is not empty just if no clock's way round by each clock once is below 0. -/
theorem round_ok (h0 : 0 < n) (hn : n ≤ 4) (hl : ts.length = n * n) (htop : Tops ts) (hf : ∀ p, p < ts.length → Fine (ts[p]?.getD 0)) (hne : ∀ k, k ≤ n → ¬ emp n (tabs n h0 ts k)) {x : Nat} (hx : x < n) : way.le way.one (pwc n ts x x) :=
  way.pw_round hn (off_same hl hn) (diag_up hl hn htop) (good_of h0 hn hl htop hf hne) (diag_down hl hn htop) hx
theorem round_bad (h0 : 0 < n) (hn : n ≤ 4) (hl : ts.length = n * n) (htop : Tops ts) (hf : ∀ p, p < ts.length → Fine (ts[p]?.getD 0)) : ∀ k, k ≤ n → emp n (tabs n h0 ts k) → ∃ x, x < n ∧ ¬ way.le way.one (pwc n ts x x) := by
  intro k
  induction k using Nat.strongRecOn with
  | _ k ih =>
    intro hk he
    by_cases hm : ∃ m, m < k ∧ emp n (tabs n h0 ts m)
    · obtain ⟨m, hm, h⟩ := hm
      exact ih m hm (by omega) h
    · obtain ⟨i, hi, hei⟩ := he
      have e := tabs_is h0 hn hl htop hf k hk (fun m h h' => hm ⟨m, h, h'⟩) i i hi hi
      refine way.pw_below hn (off_same hl hn) (diag_up hl hn htop) hk hi (fun h => ?_)
      rw [← e] at h
      have := (cod_le (by decide) (tat_top (tabs_tops h0 htop k) n i i)).1 (show way.le (cod 1) _ from h)
      omega
theorem clP_at (q p : Nat) (h : p < (clP n ts q).length) : (clP n ts q)[p] = if p / n = p % n then 1 else dec (pwc n ts (p / n) (p % n)) := by simp [clP]
theorem clP_is (h0 : 0 < n) (hn : n ≤ 4) (hl : ts.length = n * n) (htop : Tops ts) (hf : ∀ p, p < ts.length → Fine (ts[p]?.getD 0)) (hne : ∀ k, k ≤ n → ¬ emp n (tabs n h0 ts k)) : clP n ts (n * n) = tabs n h0 ts n := by
  have hlt : (tabs n h0 ts n).length = n * n := (tabs_length n h0 ts n).trans hl
  refine List.ext_getElem (by rw [clP_length, hlt]) fun p h1 h2 => ?_
  have hp : p < n * n := by rw [clP_length] at h1; exact h1
  have e1 : p / n * n + p % n = p := by rw [Nat.mul_comm]; exact Nat.div_add_mod p n
  have hi : p / n < n := (Nat.div_lt_iff_lt_mul h0).2 hp
  have hj : p % n < n := Nat.mod_lt p h0
  have e2 : (tabs n h0 ts n)[p] = tat (tabs n h0 ts n) n (p / n) (p % n) := by
    unfold tat
    rw [e1, List.getElem?_eq_getElem h2]; rfl
  rw [e2, clP_at]
  by_cases h : p / n = p % n
  · rw [if_pos h, ← h]
    exact (closed_diag h0 hn hl htop hf hne hi).symm
  · rw [if_neg h]
    have e3 : pwc n ts (p / n) (p % n) = way.F (beg n ts) n (p / n) (p % n) := way.pw_F hn (off_same hl hn) (good_of h0 hn hl htop hf hne) hi hj h
    rw [e3, ← tabs_is h0 hn hl htop hf n (Nat.le_refl _) (fun m hm => hne m (by omega)) _ _ hi hj, dec_cod]
end

/-- what Close answers. -/
def ClsR (n : Int) (ts : List Int) (w : World) (e : Ending) (w' : World) : Prop := Below w.heap.size w w' ∧
  ((¬ OkD n ts ∧ e = .returned (.tuple #[.agg #[.int .i64 0, .slice none 0 0], .int .i64 (if MayD n ts then 6 else 8)])) ∨
   (OkD n ts ∧ ∃ v, e = .returned (.tuple #[.agg #[.int .i64 n, v], .int .i64 0]) ∧ w'.ownsRow w.heap.size 29 1 v ts.length ((clT n ts).map (Value.int .i64))))

theorem box_res (n : Int) (sv : Value) (w : World) : Below w.heap.size w ((w.alloc (.cells #[.int .i64 n, sv] 58)).alloc (.cells #[.int .i64 0, .slice none 0 0] 58)) ∧ lies.Lies ((w.alloc (.cells #[.int .i64 n, sv] 58)).alloc (.cells #[.int .i64 0, .slice none 0 0] 58)) w.heap.size 58 #[.int .i64 n, sv] ∧ lies.Lies ((w.alloc (.cells #[.int .i64 n, sv] 58)).alloc (.cells #[.int .i64 0, .slice none 0 0] 58)) (w.heap.size + 1) 58 #[.int .i64 0, .slice none 0 0] :=
  ⟨bound.up2 _ _ _, lies.on_alloc (lies.made w _ _) _, lies.made_at _ _ _ _ (World.size_alloc _ _)⟩
theorem ret_res {B : Nat} {w W : World} (h : Below B w W) (hB : B ≤ w.heap.size + 1) (u v : Value) : Below B w ((W.setCell ⟨w.heap.size + 1, 0, none⟩ u).setCell ⟨w.heap.size + 1, 1, none⟩ v) :=
  (h.setCell (p := ⟨w.heap.size + 1, 0, none⟩) hB _).setCell (p := ⟨w.heap.size + 1, 1, none⟩) hB _

end Go.Proofs.YthljhijcmdnonaaDoor.dref

namespace Go.Proofs.YthljhijcmdnonaaDoor.dref
open Go.ChangeShapes Go.WideShapes Go.ChangeAt Go.RowKit num dbm rat
open bound hiding up
set_option linter.unusedVariables false
set_option linter.unusedSimpArgs false

theorem append_run2 {P : Program} {w : World} {ops : Array Oper} {rest : List Oper} {o : Oper} {a : Act} {Q : Exit → Act → World → Prop} (hgd : o.guard = none) (s x : Operand) (t : TypeId)
    (ho : o.op = .call { callee := .builtin .append, args := #[s, x], argTypes := #[t, t] }) (v u v' : Value) (w' : World) (hs : a.eval s = v) (hx : a.eval x = u)
    (hr : (Builtin.append_ #[t, t] o.type #[v, u]).run P w = .ok v' w') (h : wpList P ops Q rest (a.put o.dst v') w') : wpList P ops Q (o :: rest) a w :=
  wpList_plain hgd fun K hK => by
    unfold Oper.wp execOp
    simp only [ho, resolve, invoke, builtin, Sem.run_bind, Sem.run_pure, Result.andThen_ok, List.map_toArray, List.map_cons, List.map_nil, hs, hx, hr]
    exact hK _ _ h

/-- what lies there while times are held against bounds. -/
def KpI (n b off cap g : Nat) (qs : List (Int × Int)) (w W : World) : Prop := lies.Lies W w.heap.size 58 #[.int .i64 n, .slice (some ⟨b, off, none⟩) (n * n) cap] ∧ RowR W g 0 qs ∧ g < W.heap.size ∧ Below w.heap.size w W
theorem KpI.below {n b off cap g : Nat} {qs : List (Int × Int)} {w W X : World} (h : KpI n b off cap g qs w W) (k : Below W.heap.size W X) : KpI n b off cap g qs w X :=
  ⟨lies.on_call h.1 k, h.2.1.below k h.2.2.1, Nat.lt_of_lt_of_le h.2.2.1 k.size, h.2.2.2.trans (k.mono h.2.2.2.size)⟩

end Go.Proofs.YthljhijcmdnonaaDoor.dref

namespace Go.Proofs.YthljhijcmdnonaaDoor.dref
open Go.ChangeShapes Go.WideShapes Go.ChangeAt Go.RowKit num dbm rat
open bound hiding up
set_option linter.unusedVariables false
set_option linter.unusedSimpArgs false

end Go.Proofs.YthljhijcmdnonaaDoor.dref

namespace Go.Proofs.YthljhijcmdnonaaDoor.dbm
open Go.ChangeShapes Go.WideShapes Go.ChangeAt Go.RowKit num
open bound hiding up
set_option linter.unusedVariables false

theorem equal_lens (a c : Option Addr) (l k cap dap : Nat) (w : World) (h : l ≠ k) :
    Calls Tryd.prog 63 #[.slice a l cap, .slice c k dap] w fun e w' => e = .returned (.bool false) ∧ Below w.heap.size w w' := by
  have t1 : ((l : Int) != k) = true := by simp; omega
  go_enter Tryd.func63, Tryd.ntmps63
  go_wp2
  go_ret
  exact ⟨rfl, Below.refl _ _⟩
theorem equal_nil (a c : Option Addr) (cap dap : Nat) (w : World) :
    Calls Tryd.prog 63 #[.slice a 0 cap, .slice c 0 dap] w fun e w' => e = .returned (.bool true) ∧ Below w.heap.size w w' := by
  go_enter Tryd.func63, Tryd.ntmps63
  go_wp2
  go_loop [13] (fun i => i = .int .i64 0) (fun _ => 0)
  case atStart => rfl
  case round =>
    obtain rfl := hrel
    go_wp2
    go_ret
    exact ⟨rfl, Below.refl _ _⟩

set_option maxRecDepth 100000 in
set_option maxHeartbeats 2000000 in
theorem equal_rows (b off cap g pff dap len : Nat) (ts us : List Int) (w : World) (hr : Row w b off ts) (hb : b < w.heap.size) (hs : Row w g pff us) (hg : g < w.heap.size) (hl : ts.length = len) (hk : us.length = len) (hm : len ≤ 1000000) :
    Calls Tryd.prog 63 #[.slice (some ⟨b, off, none⟩) len cap, .slice (some ⟨g, pff, none⟩) len dap] w fun e w' => e = .returned (.bool (decide (ts = us))) ∧ Below w.heap.size w w' := by
  have t3 : ((len : Int) != len) = false := by simp
  have HR := Lib.hid hr
  have HS := Lib.hid hs
  have HL := Lib.hid hl
  have HK := Lib.hid hk
  clear hr hs hl hk
  go_enter Tryd.func63, Tryd.ntmps63
  go_wp2
  go_loopw [13] (fun i wr => ∃ k : Nat, k ≤ len ∧ i = .int .i64 k ∧ RowKit.Hid (∀ p, p < k → ts[p]?.getD 0 = us[p]?.getD 0) ∧ Below w.heap.size w wr)
    (fun i _ => len - (intOf i).toNat)
  case atStart => exact ⟨0, Nat.zero_le _, rfl, Lib.hid (fun m hm => absurd hm (by omega)), Below.refl _ _⟩
  case round =>
    obtain ⟨k, hk, rfl, heq, hB⟩ := hrel
    by_cases hkn : k < len
    · have hc := (HR.out.below hB hb) k (by rw [HL.out]; exact hkn)
      have hd := (HS.out.below hB hg) k (by rw [HK.out]; exact hkn)
      have z1 : (0 : Int) ≤ k := by omega
      have z2 : (k : Int) < len := by omega
      generalize hx : ts[k]?.getD 0 = x at hc
      generalize hy : us[k]?.getD 0 = y at hd
      have HX := Lib.hid hx
      have HY := Lib.hid hy
      clear hx hy
      by_cases hxy : x = y
      · obtain rfl : x = y := hxy
        have t4 : ((x : Int) != x) = false := by simp
        go_wp2_with fail
        go_quiet (fail)
        go_wp2
        go_roundw
        case rel => exact ⟨k + 1, by omega, by go_num, Lib.hid (fun m hm => by
          by_cases e : m = k
          · subst e; rw [HX.out, HY.out]
          · exact heq.out m (by omega)), bound.drawn hB _⟩
        case measure => simp [intOf]; omega
      · have t4 : ((x : Int) != y) = true := by simpa using hxy
        have hne : RowKit.Hid (decide (ts = us) = false) := Lib.hid (decide_eq_false (fun e => hxy (by rw [← HX.out, ← HY.out, e])))
        clear hxy
        go_wp2_with fail
        go_quiet (fail)
        go_wp2
        go_ret
        exact ⟨by rw [hne.out]; rfl, bound.drawn hB _⟩
    · obtain rfl : len = k := by omega
      have hyes : RowKit.Hid (decide (ts = us) = true) := Lib.hid (decide_eq_true (List.ext_getElem (by rw [HL.out, HK.out]) (fun i h1 h2 => by
        have := heq.out i (by rw [← HL.out]; exact h1)
        rwa [List.getElem?_eq_getElem h1, List.getElem?_eq_getElem h2] at this)))
      go_wp2
      go_ret
      exact ⟨by rw [hyes.out]; rfl, hB⟩
theorem equal_any (sv tv : Value) (ts us : List Int) (w : World) (hI : law.Ints w.heap.size w sv ts) (hJ : law.Ints w.heap.size w tv us) (hm : ts.length ≤ 1000000) :
    Calls Tryd.prog 63 #[sv, tv] w fun e w' => e = .returned (.bool (decide (ts = us))) ∧ Below w.heap.size w w' := by
  by_cases h2 : ts.length = us.length
  · rcases hI with ⟨⟨a, cap, rfl, _⟩, rfl⟩ | ⟨b, off, cap, rfl, hb, hc⟩
    · obtain rfl : us = [] := List.eq_nil_of_length_eq_zero (by rw [← h2]; rfl)
      obtain ⟨c, dap, rfl⟩ := ints_len hJ
      have := equal_nil a c cap dap w
      simpa using this
    · rcases hJ with ⟨⟨c, dap, rfl, _⟩, rfl⟩ | ⟨g, pff, dap, rfl, hg, hd⟩
      · obtain rfl : ts = [] := List.eq_nil_of_length_eq_zero (by rw [h2]; rfl)
        have := equal_nil (some ⟨b, off, none⟩) c cap dap w
        simpa using this
      · rw [← h2]
        exact equal_rows b off cap g pff dap ts.length ts us w hc hb (fun p hp => hd p hp) hg rfl h2.symm hm
  · obtain ⟨a, cap, rfl⟩ := ints_len hI
    obtain ⟨c, dap, rfl⟩ := ints_len hJ
    rw [decide_eq_false (fun k => h2 (by rw [k]))]
    exact equal_lens a c _ _ cap dap w h2

/-- are two matrices the same? -/
theorem same4_any (n m : Int) (sv tv : Value) (ts us : List Int) (w : World) (hI : law.Ints w.heap.size w sv ts) (hJ : law.Ints w.heap.size w tv us) (hm : ts.length ≤ 1000000) :
    Calls Tryd.prog 35 #[.agg #[.int .i64 n, sv], .agg #[.int .i64 m, tv]] w fun e w' => e = .returned (.bool (decide (n = m ∧ ts = us))) ∧ Below w.heap.size w w' := by
  have DB := bound.up2 w (.cells #[.int .i64 n, sv] 58) (.cells #[.int .i64 m, tv] 58)
  have hE := equal_any sv tv ts us _ ((hI.below DB).mono DB.size) ((hJ.below DB).mono DB.size) hm
  have HE := Lib.hid hE
  obtain ⟨a, cap, rfl⟩ := ints_len hI
  obtain ⟨c, dap, rfl⟩ := ints_len hJ
  clear hI hJ hE
  by_cases h : n = m
  · subst h
    have e : decide (n = n ∧ ts = us) = decide (ts = us) := by simp
    rw [e]
    have t1 : ((n : Int) == n) = true := by simp
    clear e
    generalize decide (ts = us) = r at HE ⊢
    go_enter Tryd.func35, Tryd.ntmps35
    go_wp2_with fail
    refine HE.out.mono ?_
    rintro e w1 ⟨rfl, hB1⟩
    have B1 := DB.trans (hB1.mono DB.size)
    clear HE DB hB1
    go_wp2_with fail
    go_ret
    exact ⟨rfl, B1⟩
  · rw [decide_eq_false (fun k => h k.1)]
    have t1 : ((n : Int) == m) = false := by simpa using h
    clear h HE
    go_enter Tryd.func35, Tryd.ntmps35
    go_wp2_with fail
    go_ret
    exact ⟨rfl, DB⟩
end Go.Proofs.YthljhijcmdnonaaDoor.dbm

namespace Go.Proofs.YthljhijcmdnonaaDoor.dbm
open Go.ChangeShapes Go.WideShapes Go.ChangeAt Go.RowKit num
open bound hiding up
set_option linter.unusedVariables false

set_option maxRecDepth 100000 in
set_option maxHeartbeats 1000000 in
theorem twin_row0 (n : Int) (b off len cap : Nat) (ts : List Int) (w : World) (hr : Row w b off ts) (hb : b < w.heap.size) (hl : ts.length = len) (hm : len ≤ 1000000000000) :
    Calls Tryd.prog 59 #[.agg #[.int .i64 n, .slice (some ⟨b, off, none⟩) len cap]] w (New n len ts w) := by
  have HR := Lib.hid hr
  have HL := Lib.hid hl
  clear hr hl
  have hmk := run_make_row' (P := Tryd.prog) 56 29 (.int .i64 0) 8 Tryd.underlying56 info_b rfl .i64 .i64 len (by omega) (by omega)
  have hn := fun w => Lib.run_eql_slice_nil (P := Tryd.prog) w 56 29 (some ⟨b, off, none⟩) len cap 0 0 Tryd.underlying56
  go_enter Tryd.func59, Tryd.ntmps59
  have D0 := lies.on_alloc (lies.on_alloc (lies.made w 58 #[.int .i64 n, .slice (some ⟨b, off, none⟩) len cap]) (.cells #[.int .i64 0, .slice none 0 0] 58)) (.cells (madeCells #[.int .i64 0] len) 29)
  have D1 := lies.on_alloc (lies.made_at (w.alloc (.cells #[.int .i64 n, .slice (some ⟨b, off, none⟩) len cap] 58)) 58 #[.int .i64 0, .slice none 0 0] (w.heap.size + 1) (World.size_alloc _ _)) (.cells (madeCells #[.int .i64 0] len) 29)
  have D2 := lies.made_at ((w.alloc (.cells #[.int .i64 n, .slice (some ⟨b, off, none⟩) len cap] 58)).alloc (.cells #[.int .i64 0, .slice none 0 0] 58)) 29 (madeCells #[.int .i64 0] len) (w.heap.size + 1 + 1) (by simp)
  have D3 : Row (((w.alloc (.cells #[.int .i64 n, .slice (some ⟨b, off, none⟩) len cap] 58)).alloc (.cells #[.int .i64 0, .slice none 0 0] 58)).alloc (.cells (madeCells #[.int .i64 0] len) 29)) b off ts := HR.out.below ((((Below.refl w.heap.size w).alloc (Nat.le_refl _) _).alloc (by simp) _).alloc (by simp; omega) _) hb
  have D4 : Below w.heap.size w (((w.alloc (.cells #[.int .i64 n, .slice (some ⟨b, off, none⟩) len cap] 58)).alloc (.cells #[.int .i64 0, .slice none 0 0] 58)).alloc (.cells (madeCells #[.int .i64 0] len) 29)) := (((Below.refl w.heap.size w).alloc (Nat.le_refl _) _).alloc (by simp) _).alloc (by simp; omega) _
  have HD := Lib.hid (And.intro D0 (And.intro D1 (And.intro D2 (And.intro D3 D4))))
  clear D0 D1 D2 D3 D4
  go_wp2_with (refine wpList_copy_splice rfl (.tmp 12) (.tmp 14) 56 56 rfl 29 Tryd.underlying56 (by kernel_rfl) (some ⟨w.heap.size + 1 + 1, 0, none⟩) (some ⟨b, off, none⟩) len len len cap rfl rfl (w.heap.size + 1 + 1) 0 (madeCells #[.int .i64 0] len).toList 29 HD.out.2.2.1 (ts.map (Value.int .i64)) (by simp [HL.out]) (fun _ => ⟨rfl, ⟨b, off, none⟩, rfl, copied HD.out.2.2.2.1⟩) (by simp [HL.out, size_madeCells]) (by intro v hv; obtain ⟨x, _, rfl⟩ := List.mem_map.1 hv; rfl) (w.heap.size + 1 + 1) _ (Below.refl _ _) (Nat.le_refl _) ?_; intro w' hg' hB'; have D0' : lies.Lies w' w.heap.size 58 #[.int .i64 n, .slice (some ⟨b, off, none⟩) len cap] := (hB'.block _ (by omega)).trans HD.out.1; have D1' : lies.Lies w' (w.heap.size + 1) 58 #[.int .i64 0, .slice none 0 0] := (hB'.block _ (by omega)).trans HD.out.2.1; obtain ⟨x0, x1, x2, x3, x4⟩ := lies.two D0'; obtain ⟨y0, y1, y2, y3, y4⟩ := lies.two D1')
  have hG : lies.Lies w' (w.heap.size + 1 + 1) 29 (cellsOf ts) := by
    have h := hg'.out
    rw [spliced _ _ (by simp [HL.out, size_madeCells])] at h
    exact h
  have hB2 : Below w.heap.size w w' := HD.out.2.2.2.2.trans (hB'.mono (by omega))
  refine bodyPost_ret (v := .agg #[.int .i64 n, .slice (some ⟨w.heap.size + 1 + 1, 0, none⟩) len len]) (by simp [results, Tryd.results59, go_sem, y0, y1]) rfl ⟨w.heap.size + 1 + 1, by omega, rfl, ?_, ?_⟩
  · exact lies.on_far (lies.on_far hG 0 (by omega) _) 1 (by omega) _
  · exact (hB2.setCell (p := ⟨w.heap.size + 1, 0, none⟩) (by simp) _).setCell (p := ⟨w.heap.size + 1, 1, none⟩) (by simp) _
/-- what Twin answers, of any matrix. -/
def TwA (n : Int) (ts : List Int) (w : World) (e : Ending) (w' : World) : Prop := Below w.heap.size w w' ∧ ∃ v, e = .returned (.agg #[.int .i64 n, v]) ∧
  ((v = .slice none 0 0 ∧ ts = []) ∨ ∃ g, w.heap.size ≤ g ∧ v = .slice (some ⟨g, 0, none⟩) ts.length ts.length ∧ lies.Lies w' g 29 (cellsOf ts))
theorem twin4_any (n : Int) (v : Value) (ts : List Int) (w : World) (base : Nat) (hO : w.ownsRow base 29 1 v ts.length (ts.map (Value.int .i64))) (hm : ts.length ≤ 1000000) :
    Calls Tryd.prog 59 #[.agg #[.int .i64 n, v]] w (TwA n ts w) := by
  rcases Go.Joins.ownsRow_forms hO with ⟨rfl, h0⟩ | ⟨g, cap, rfl⟩
  · obtain rfl : ts = [] := List.eq_nil_of_length_eq_zero h0
    exact (twin_nil n w).mono fun e w' ⟨he, hB⟩ => ⟨hB, _, he, .inl ⟨rfl, rfl⟩⟩
  · have hr : Row w g 0 ts := fun j hj => by
      rw [Nat.zero_add, hO.cellAt j (by omega), List.getElem?_map, List.getElem?_eq_getElem hj]
      rfl
    refine (twin_row0 n g 0 ts.length cap ts w hr (hO.lt g rfl).2 rfl (by omega)).mono fun e w' ⟨g', hg, he, hG, hB⟩ => ⟨hB, _, he, .inr ⟨g', hg, rfl, hG⟩⟩
end Go.Proofs.YthljhijcmdnonaaDoor.dbm
