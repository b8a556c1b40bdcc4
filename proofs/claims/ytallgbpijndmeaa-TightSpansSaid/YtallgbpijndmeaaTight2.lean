/-
  What tight's with answers; the theorem names its conditions.
-/
import Derived.Test.YtallgbpijndmeaaTightMath
import Derived.Test.YtallgbpijndmeaaDbmE
import Derived.Test.YtallgbpijndmeaaTight1
namespace Go.Proofs.Ytallgbpijndmeaa.tight
open Go.ChangeShapes Go.WideShapes Go.ChangeAt Go.RowKit num dbm
open bound hiding up
set_option linter.unusedVariables false
set_option linter.unusedSimpArgs false

/-- a bound more: of a clock less a clock. -/
abbrev Mo := Nat × Nat × Int
def mo (ms : List Mo) (k : Nat) : Mo := ms[k]?.getD (0, 0, 0)
/-- where bounds more lie. -/
def RowM (W : World) (g off : Nat) (ms : List Mo) : Prop := ∀ k, k < ms.length → W.cell? ⟨g, off + k * 3, none⟩ = some (.int .i64 ((mo ms k).1 : Int)) ∧ W.cell? ⟨g, off + k * 3 + 1, none⟩ = some (.int .i64 ((mo ms k).2.1 : Int)) ∧ W.cell? ⟨g, off + k * 3 + 2, none⟩ = some (.int .i64 (mo ms k).2.2)
theorem RowM.below {n : Nat} {W W' : World} {g off : Nat} {ms : List Mo} (h : RowM W g off ms) (k : Below n W W') (hg : g < n) : RowM W' g off ms := fun p hp => by
  obtain ⟨h1, h2, h3⟩ := h p hp
  exact ⟨(k.cell (p := ⟨g, off + p * 3, none⟩) hg).trans h1, (k.cell (p := ⟨g, off + p * 3 + 1, none⟩) hg).trans h2, (k.cell (p := ⟨g, off + p * 3 + 2, none⟩) hg).trans h3⟩
/-- the matrix with bounds more. -/
def setAll (n : Nat) (ts : List Int) (ms : List Mo) : List Int := ms.foldl (fun t m => setT t (m.1 * n + m.2.1) m.2.2) ts
theorem setAll_up (n : Nat) (ts : List Int) (ms : List Mo) (k : Nat) (hk : k < ms.length) : setAll n ts (ms.take (k + 1)) = setT (setAll n ts (ms.take k)) ((mo ms k).1 * n + (mo ms k).2.1) (mo ms k).2.2 := by
  unfold setAll mo
  rw [← List.take_append_getElem hk, List.foldl_append, List.getElem?_eq_getElem hk]
  rfl
theorem setAll_length (n : Nat) (ts : List Int) (ms : List Mo) : (setAll n ts ms).length = ts.length := by
  unfold setAll
  induction ms generalizing ts with
  | nil => rfl
  | cons m ms ih => exact (ih _).trans (setT_length _ _ _)
theorem setAll_tops {n : Nat} {ts : List Int} (h : Tops ts) (ms : List Mo) : Tops (setAll n ts ms) := by
  unfold setAll
  induction ms generalizing ts with
  | nil => exact h
  | cons m ms ih => exact ih (setT_tops h _ _)
theorem setAll_may {n : Nat} {ts : List Int} (h : MayD n ts) (ms : List Mo) (hm : ∀ m ∈ ms, Fine m.2.2) : MayD n (setAll n ts ms) := by
  unfold setAll
  induction ms generalizing ts with
  | nil => exact h
  | cons m ms ih => exact ih (setT_may h _ (hm m List.mem_cons_self)) (fun x hx => hm x (List.mem_cons_of_mem _ hx))

/-- what Close answers: clocks, bounds, error. -/
def Ans (n : Int) (ts : List Int) (na : Int) (us : List Int) (f : Int) : Prop := (¬ OkD n ts ∧ na = 0 ∧ us = [] ∧ f = if MayD n ts then 6 else 8) ∨ (OkD n ts ∧ na = n ∧ us = clT n ts ∧ f = 0)
/-- a list in a block of its own, or none. -/
def Blk (n₀ : Nat) (W : World) (aa : Option Addr) (la ca : Nat) (us : List Int) : Prop := (aa = none ∧ la = 0 ∧ ca = 0 ∧ us = []) ∨ ∃ g, n₀ ≤ g ∧ aa = some ⟨g, 0, none⟩ ∧ la = us.length ∧ lies.Lies W g 26 (cellsOf us)
theorem Blk.ints {n₀ : Nat} {W : World} {aa : Option Addr} {la ca : Nat} {us : List Int} (h : Blk n₀ W aa la ca us) : law.Ints W.heap.size W (.slice aa la ca) us := by
  rcases h with ⟨rfl, rfl, rfl, rfl⟩ | ⟨g, hg, rfl, rfl, h⟩
  · exact .inl ⟨⟨_, _, rfl, fun _ => rfl⟩, rfl⟩
  · exact .inr ⟨g, 0, _, rfl, lies.lt h, row_of h⟩
theorem Blk.below {n₀ : Nat} {W X : World} {aa : Option Addr} {la ca : Nat} {us : List Int} (h : Blk n₀ W aa la ca us) (k : Below W.heap.size W X) : Blk n₀ X aa la ca us := by
  rcases h with h | ⟨g, hg, h1, h2, h⟩
  · exact .inl h
  · exact .inr ⟨g, hg, h1, h2, lies.on_call h k⟩
theorem Blk.mono {n₀ n₁ : Nat} {W : World} {aa : Option Addr} {la ca : Nat} {us : List Int} (h : Blk n₀ W aa la ca us) (k : n₁ ≤ n₀) : Blk n₁ W aa la ca us := by
  rcases h with h | ⟨g, hg, h1, h2, h⟩
  · exact .inl h
  · exact .inr ⟨g, by omega, h1, h2, h⟩
theorem Blk.far {n₀ : Nat} {W : World} {aa : Option Addr} {la ca : Nat} {us : List Int} (h : Blk n₀ W aa la ca us) {q : Nat} (hq : q < n₀) (i : Nat) (u : Value) : Blk n₀ (W.setCell ⟨q, i, none⟩ u) aa la ca us := by
  rcases h with h | ⟨g, hg, h1, h2, h⟩
  · exact .inl h
  · exact .inr ⟨g, hg, h1, h2, lies.on_far h i (by omega) u⟩
theorem close_g (n : Int) (sv : Value) (ts : List Int) (w : World) (hI : law.Ints w.heap.size w sv ts) (hm : ts.length ≤ 1000000) (htop : Tops ts) :
    Calls Try.prog 21 #[.agg #[.int .i64 n, sv]] w fun e w' => Below w.heap.size w w' ∧ ∃ na aa la ca us f, e = .returned (.tuple #[.agg #[.int .i64 na, .slice aa la ca], .int .i64 f]) ∧ Ans n ts na us f ∧ Blk w.heap.size w' aa la ca us := by
  by_cases h : MayD n ts
  · obtain ⟨m, rfl, h0, hn, hl⟩ := may_nat h
    have hp : 0 < m * m := Nat.mul_pos h0 h0
    rcases hI with ⟨_, rfl⟩ | ⟨b, off, cap, rfl, hb, hc⟩
    · simp at hl; omega
    · rw [hl]
      refine (close_ok m b off cap ts w h0 hc hb htop h hl hn).mono fun e w' ⟨hB, hor⟩ => ⟨hB, ?_⟩
      rcases hor with ⟨k, hk, hem, rfl⟩ | ⟨hne, g, hg, rfl, hG⟩
      · exact ⟨0, none, 0, 0, [], 6, rfl, .inl ⟨fun ⟨_, h0', hne⟩ => hne k (by simpa using hk) hem, rfl, rfl, by rw [if_pos h]⟩, .inl ⟨rfl, rfl, rfl, rfl⟩⟩
      · refine ⟨m, _, _, _, tabs m h0 ts m, 0, rfl, .inr ⟨⟨h, by simpa using h0, fun k hk => hne k (by simpa using hk)⟩, rfl, (clT_nat h0 ts).symm, rfl⟩, .inr ⟨g, hg, rfl, ?_, hG⟩⟩
        rw [tabs_length, hl]
  · exact (close_bad n sv ts w hI hm htop h).mono fun e w' ⟨he, hB⟩ => ⟨hB, 0, none, 0, 0, [], 8, he, .inl ⟨fun k => h k.1, rfl, rfl, by rw [if_neg h]⟩, .inl ⟨rfl, rfl, rfl, rfl⟩⟩

/-- what a matrix that a call closes answers. -/
def Gives (n : Int) (ts : List Int) (w : World) (e : Ending) (w' : World) : Prop := Below w.heap.size w w' ∧ ∃ na aa la ca us f, e = .returned (.tuple #[.agg #[.int .i64 na, .slice aa la ca], .int .i64 f]) ∧ Ans n ts na us f ∧ Blk w.heap.size w' aa la ca us
/-- what lies there while bounds are put in. -/
def Wi (n b off cap g B off' len cap' gl : Nat) (us ts : List Int) (ms : List Mo) (w W : World) : Prop :=
  lies.Lies W w.heap.size 24 #[.int .i64 n, .slice (some ⟨b, off, none⟩) (n * n) cap] ∧ lies.Lies W (w.heap.size + 1) 24 #[.int .i64 0, .slice none 0 0] ∧ lies.Lies W B 24 #[.int .i64 n, .slice (some ⟨g, 0, none⟩) (n * n) (n * n)] ∧ lies.Lies W g 26 (cellsOf us) ∧ Below w.heap.size w W
theorem min_lsr (z x : Int) : min z x = lsr z x := by
  by_cases h : x < z
  · rw [show lsr z x = x from if_pos h]; exact Int.min_eq_right (by omega)
  · rw [show lsr z x = z from if_neg h]; exact Int.min_eq_left (by omega)
set_option maxRecDepth 100000 in
set_option maxHeartbeats 4000000 in
theorem with_any (n b off cap gl off' len cap' : Nat) (ts : List Int) (ms : List Mo) (w : World) (h0 : 0 < n) (hn : n ≤ 4) (hr : Row w b off ts) (hb : b < w.heap.size) (htop : Tops ts) (hl : ts.length = n * n)
    (hm : RowM w gl off' ms) (hg : gl < w.heap.size) (hlm : ms.length = len) (hml : len ≤ 1000) (hin : ∀ k, k < len → (mo ms k).1 < n ∧ (mo ms k).2.1 < n) :
    Calls Try.prog 25 #[.agg #[.int .i64 n, .slice (some ⟨b, off, none⟩) (n * n) cap], .slice (some ⟨gl, off', none⟩) len cap'] w (Gives n (setAll n ts ms) w) := by
  obtain ⟨DB, D0, D1⟩ := dref.box_res n (.slice (some ⟨b, off, none⟩) (n * n) cap) w
  have HR := Lib.hid hr
  have HT := Lib.hid htop
  have HL := Lib.hid hl
  have HM := Lib.hid hm
  have HLM := Lib.hid hlm
  have HIN := Lib.hid hin
  clear hr htop hl hm hlm hin
  have hnn := sq_le hn
  have hpos : 0 < n * n := Nat.mul_pos h0 h0
  go_enter Try.func25, Try.ntmps25
  go_wp2_with fail
  refine (twin_row n b off (n * n) cap ts _ (HR.out.below DB hb) (by have := DB.size; omega) HL.out hpos (by omega)).mono ?_
  rintro e w2 ⟨g, hg2, rfl, hG, hB2⟩
  have E0 := lies.on_call D0 hB2
  have E1 := lies.on_call D1 hB2
  have K2 := DB.trans (hB2.mono DB.size)
  have hw := lies.lt E1
  clear D0 D1 hB2
  go_wp2_with fail
  have W0 : Wi n b off cap g w2.heap.size off' len cap' gl (setAll n ts (ms.take 0)) ts ms w (w2.alloc (.cells #[.int .i64 n, .slice (some ⟨g, 0, none⟩) (n * n) (n * n)] 24)) :=
    ⟨lies.on_alloc E0 _, lies.on_alloc E1 _, lies.made _ _ _, lies.on_alloc hG _, K2.alloc K2.size _⟩
  have hgB : g ≠ w2.heap.size := by have := lies.lt hG; omega
  have hgw : w.heap.size < g := by have := DB.size; simp at hg2; omega
  have hgw1 : w.heap.size + 1 < g := by simp at hg2; omega
  have hBw : w.heap.size < w2.heap.size := by omega
  clear E0 E1 K2 hG hw
  generalize w2.heap.size = B at W0 hgB hBw ⊢
  generalize w2.alloc (.cells #[.int .i64 n, .slice (some ⟨g, 0, none⟩) (n * n) (n * n)] 24) = w3 at W0 ⊢
  go_loopw [14] (fun i wr => ∃ k : Nat, k ≤ len ∧ i = .int .i64 k ∧ Wi n b off cap g B off' len cap' gl (setAll n ts (ms.take k)) ts ms w wr) (fun i _ => len - (intOf i).toNat)
  case atStart => exact ⟨0, Nat.zero_le _, rfl, W0⟩
  case round =>
    clear W0
    obtain ⟨k, hk, rfl, hA⟩ := hrel
    by_cases hkn : k < len
    · obtain ⟨hi, hj⟩ := HIN.out k hkn
      obtain ⟨m1, m2, m3⟩ := (HM.out.below hA.2.2.2.2 hg) k (by rw [HLM.out]; exact hkn)
      have hup := setAll_up n ts ms k (by rw [HLM.out]; exact hkn)
      have hus : (setAll n ts (ms.take k)).length = n * n := (setAll_length _ _ _).trans HL.out
      generalize mo ms k = m at hi hj m1 m2 m3 hup
      obtain ⟨i, j, x⟩ := m
      dsimp only at hi hj m1 m2 m3 hup
      have hp := place_le hn hi hj
      have hz := (lies.cell hA.2.2.2.1 (i * n + j)).trans (cells_at _ _ (by rw [hus]; exact hp))
      have hf := lies.free hA.2.2.2.1 (i * n + j)
      have hA1 := hA
      unfold setT at hup
      generalize hU : setAll n ts (ms.take k) = us at hA hus hz hup
      generalize hz' : us[i * n + j]?.getD 0 = z at hz hup
      obtain ⟨y1, y2, y3, y4, y5, y6, y7⟩ := dref.place_int hn hi hj
      obtain ⟨c0, c1, c2, c3, c4⟩ := lies.two hA.1
      obtain ⟨d0, d1, d2, d3, d4⟩ := lies.two hA.2.2.1
      have hgl := Nat.lt_of_lt_of_le hg hA.2.2.2.2.size
      have hgg := lies.lt hA.2.2.2.1
      clear hA1
      have HUP := Lib.hid hup
      have HUS := Lib.hid hus
      have HU := Lib.hid hU
      have HZ := Lib.hid hz'
      clear hup hus hU hz'
      go_wp2_with fail
      have A1 : Wi n b off cap g B off' len cap' gl us ts ms w (wr.alloc (.cells #[.int .i64 i, .int .i64 j, .int .i64 x] 60)) :=
        ⟨lies.on_alloc hA.1 _, lies.on_alloc hA.2.1 _, lies.on_alloc hA.2.2.1 _, lies.on_alloc hA.2.2.2.1 _, hA.2.2.2.2.alloc hA.2.2.2.2.size _⟩
      have M1 := lies.made wr 60 #[.int .i64 i, .int .i64 j, .int .i64 x]
      have hz1 := lies.cell A1.2.2.2.1 (i * n + j)
      rw [cells_at us (i * n + j) (by rw [HUS.out]; exact hp), HZ.out] at hz1
      clear hA m1 m2 m3 c0 c1 c2 c3 c4 d0 d1 d2 d3 d4 hz hf
      generalize wr.heap.size = Bm at M1 ⊢
      generalize wr.alloc (.cells #[.int .i64 i, .int .i64 j, .int .i64 x] 60) = w5 at A1 M1 hz1 ⊢
      have hfz := lies.free A1.2.2.2.1 (i * n + j)
      have hgBm := ne_type A1.2.2.2.1 M1 (by decide)
      have S0 : ∀ W, Below w5.heap.size w5 W → W.cell? ⟨B, 1, none⟩ = some (.slice (some ⟨g, 0, none⟩) (n * n) (n * n)) ∧ W.cell? ⟨Bm, 2, none⟩ = some (.int .i64 x) := fun W hW => ⟨(dlaw.at_s A1.2.2.1 hW).2, lies.cell (lies.on_call M1 hW) 2⟩
      refine wp_region_held_drew (S := fun W => W.cell? ⟨B, 1, none⟩ = some (.slice (some ⟨g, 0, none⟩) (n * n) (n * n)) ∧ W.cell? ⟨Bm, 2, none⟩ = some (.int .i64 x)) (by kernel_rfl) (S0 _ (dbm.drawn1 (Below.refl _ _))) (fun hHeld => ?_)
      refine wpAnyH_take (i := 0) (v := ?_) rfl (by kernel_rfl) (by kernel_rfl) (by kernel_rfl) (fun _ _ _ h => h) (Or.inl ⟨by rfl, ?_⟩) hHeld ?_
      rotate_left
      · intro w hSw; obtain ⟨s0, s1⟩ := hSw; go_simp; try with_reducible rfl
      try simp only [Act.put, List.getElem_toArray, List.getElem_cons_zero, List.getElem_cons_succ, List.setIfInBounds_toArray, List.set_cons_zero, List.set_cons_succ]
      refine wpAnyH_take (i := 1) (v := ?_) rfl (by kernel_rfl) (by kernel_rfl) (by kernel_rfl) (fun _ _ _ h => h) (Or.inl ⟨by rfl, ?_⟩) hHeld ?_
      rotate_left
      · intro w hSw; obtain ⟨s0, s1⟩ := hSw; go_simp; try with_reducible rfl
      try simp only [Act.put, List.getElem_toArray, List.getElem_cons_zero, List.getElem_cons_succ, List.setIfInBounds_toArray, List.set_cons_zero, List.set_cons_succ]
      refine wpAnyH_take (i := 2) (v := ?_) rfl (by kernel_rfl) (by kernel_rfl) (by kernel_rfl) (fun _ _ _ h => h) (Or.inl ⟨by rfl, ?_⟩) hHeld ?_
      rotate_left
      · intro w hSw; obtain ⟨s0, s1⟩ := hSw; go_simp; try with_reducible rfl
      try simp only [Act.put, List.getElem_toArray, List.getElem_cons_zero, List.getElem_cons_succ, List.setIfInBounds_toArray, List.set_cons_zero, List.set_cons_succ]
      refine wpAnyH_take (i := 3) (v := ?_) rfl (by kernel_rfl) (by kernel_rfl) (by kernel_rfl) (fun _ _ _ h => h) (Or.inl ⟨by rfl, ?_⟩) hHeld ?_
      rotate_left
      · intro w hSw; obtain ⟨s0, s1⟩ := hSw; go_simp; try with_reducible rfl
      try simp only [Act.put, List.getElem_toArray, List.getElem_cons_zero, List.getElem_cons_succ, List.setIfInBounds_toArray, List.set_cons_zero, List.set_cons_succ]
      refine wpAnyH_take (i := 4) (v := ?_) rfl (by kernel_rfl) (by kernel_rfl) (by kernel_rfl) (fun _ _ _ h => h) (Or.inl ⟨by rfl, ?_⟩) hHeld ?_
      rotate_left
      · intro w hSw; obtain ⟨s0, s1⟩ := hSw; go_simp; try with_reducible rfl
      try simp only [Act.put, List.getElem_toArray, List.getElem_cons_zero, List.getElem_cons_succ, List.setIfInBounds_toArray, List.set_cons_zero, List.set_cons_succ]
      refine wpAnyH_take (i := 5) (v := ?_) rfl (by kernel_rfl) (by kernel_rfl) (by kernel_rfl) (fun _ _ _ h => h) (Or.inl ⟨by rfl, ?_⟩) hHeld ?_
      rotate_left
      · intro w hSw; obtain ⟨s0, s1⟩ := hSw; go_simp; try with_reducible rfl
      try simp only [Act.put, List.getElem_toArray, List.getElem_cons_zero, List.getElem_cons_succ, List.setIfInBounds_toArray, List.set_cons_zero, List.set_cons_succ]
      refine wpAnyH_take (i := 6) (v := ?_) rfl (by kernel_rfl) (by kernel_rfl) (by kernel_rfl) (fun _ _ _ h => h) (Or.inl ⟨by rfl, ?_⟩) hHeld ?_
      rotate_left
      · intro w hSw; obtain ⟨s0, s1⟩ := hSw; go_simp; try with_reducible rfl
      try simp only [Act.put, List.getElem_toArray, List.getElem_cons_zero, List.getElem_cons_succ, List.setIfInBounds_toArray, List.set_cons_zero, List.set_cons_succ]
      refine wpAnyH_take (i := 8) (v := ?_) rfl (by kernel_rfl) (by kernel_rfl) (by kernel_rfl) (fun _ _ _ h => h) (Or.inl ⟨by rfl, ?_⟩) hHeld ?_
      rotate_left
      · intro w hSw; obtain ⟨s0, s1⟩ := hSw; go_simp; try with_reducible rfl
      try simp only [Act.put, List.getElem_toArray, List.getElem_cons_zero, List.getElem_cons_succ, List.setIfInBounds_toArray, List.set_cons_zero, List.set_cons_succ]
      refine wpAnyH_take (i := 9) (v := ?_) rfl (by kernel_rfl) (by kernel_rfl) (by kernel_rfl) (fun _ _ _ h => h) (Or.inl ⟨by rfl, ?_⟩) hHeld ?_
      rotate_left
      · intro w hSw; obtain ⟨s0, s1⟩ := hSw; go_simp; try with_reducible rfl
      try simp only [Act.put, List.getElem_toArray, List.getElem_cons_zero, List.getElem_cons_succ, List.setIfInBounds_toArray, List.set_cons_zero, List.set_cons_succ]
      refine wpAnyH_ready (rs := [7]) (by kernel_rfl) (by simp) (AllReadyH.cons rfl (fun K hK => ?_) AllReadyH.nil)
      go_simp
      refine hK.out _ _ (S0 _ (dbm.drawn1 (Below.refl _ _))) (fun hNew => ?_)
      clear hHeld hK K
      have hHeld := hNew
      clear hNew
      try simp only [Act.put, List.getElem_toArray, List.getElem_cons_zero, List.getElem_cons_succ, List.setIfInBounds_toArray, List.set_cons_zero, List.set_cons_succ]
      refine wpAnyH_ready (rs := [10]) (by kernel_rfl) (by simp) (AllReadyH.cons rfl (fun K hK => ?_) AllReadyH.nil)
      go_simp
      refine hK.out _ _ (S0 _ (dbm.drawn1 (Below.refl _ _))) (fun hNew => ?_)
      clear hHeld hK K
      have hHeld := hNew
      clear hNew
      try simp only [Act.put, List.getElem_toArray, List.getElem_cons_zero, List.getElem_cons_succ, List.setIfInBounds_toArray, List.set_cons_zero, List.set_cons_succ]
      refine wpAnyH_take (i := 11) (v := ?_) rfl (by kernel_rfl) (by kernel_rfl) (by kernel_rfl) (fun _ _ _ h => h) (Or.inl ⟨by rfl, ?_⟩) hHeld ?_
      rotate_left
      · intro w hSw; obtain ⟨s0, s1⟩ := hSw; go_simp; try with_reducible rfl
      try simp only [Act.put, List.getElem_toArray, List.getElem_cons_zero, List.getElem_cons_succ, List.setIfInBounds_toArray, List.set_cons_zero, List.set_cons_succ]
      refine wpAnyH_ready (rs := [12]) (by kernel_rfl) (by simp) (AllReadyH.cons rfl (fun K hK => ?_) AllReadyH.nil)
      go_simp
      have hmin := min_lsr z x
      rw [hmin]
      have A2 : Wi n b off cap g B off' len cap' gl (us.set (i * n + j) (lsr z x)) ts ms w (w5.setCell ⟨g, i * n + j, none⟩ (.int .i64 (lsr z x))).drew ∧ lies.Lies (w5.setCell ⟨g, i * n + j, none⟩ (.int .i64 (lsr z x))).drew Bm 60 #[.int .i64 i, .int .i64 j, .int .i64 x] := by
        have P := lies.on_put A1.2.2.2.1 (i * n + j) (.int .i64 (lsr z x))
        rw [cells_set] at P
        have D := fun {bb : Nat} {t : TypeId} {cs : Array Value} (h : lies.Lies w5 bb t cs) (hne : bb ≠ g) => lies.on_call (lies.on_far h (i * n + j) hne (.int .i64 (lsr z x))) (dbm.drawn1 (Below.refl _ _))
        exact ⟨⟨D A1.1 (by omega), D A1.2.1 (by omega), D A1.2.2.1 (Ne.symm hgB), lies.on_call P (dbm.drawn1 (Below.refl _ _)), dbm.drawn1 (A1.2.2.2.2.setCell (p := ⟨g, i * n + j, none⟩) (Nat.le_of_lt hgw) _)⟩, D M1 (Ne.symm hgBm)⟩
      refine hK.out _ _ ⟨(lies.two A2.1.2.2.1).2.1, lies.cell A2.2 2⟩ (fun hNew => ?_)
      clear hHeld hK K hNew S0
      refine wpAnyH_done (by kernel_rfl) ?_ _
      replace A2 := A2.1
      clear A1 M1 hz1 hfz
      generalize (w5.setCell ⟨g, i * n + j, none⟩ (.int .i64 (lsr z x))).drew = w6 at A2 ⊢
      go_wp2_with fail
      go_roundw
      case rel => exact ⟨k + 1, by omega, by go_num, by rw [HUP.out]; exact A2⟩
      case measure => simp [intOf]; omega
    · obtain rfl : len = k := by omega
      have htk : ms.take len = ms := by rw [← HLM.out]; exact List.take_length
      rw [htk] at hA
      obtain ⟨c0, c1, c2, c3, c4⟩ := lies.two hA.2.2.1
      have hlen : (setAll n ts ms).length = n * n := (setAll_length _ _ _).trans HL.out
      have hI : law.Ints wr.heap.size wr (.slice (some ⟨g, 0, none⟩) (n * n) (n * n)) (setAll n ts ms) := by
        have := dlaw.own_ints (cap := n * n) hA.2.2.2.1
        rwa [hlen] at this
      have HC := Lib.hid (close_g n _ (setAll n ts ms) wr hI (by omega) (setAll_tops HT.out ms))
      clear hI hlen htk
      go_wp2_with fail
      refine HC.out.mono ?_
      rintro e w4 ⟨hB4, na, aa, la, ca, vs, f, rfl, hAns, hBlk⟩
      have F1 := lies.on_call hA.2.1 hB4
      have FB := hA.2.2.2.2.trans (hB4.mono hA.2.2.2.2.size)
      have hle := hA.2.2.2.2.size
      have hlt := lies.lt hA.2.1
      clear c0 c1 c2 c3 c4 hA HC hB4
      obtain ⟨x0, x1, x2, x3, x4⟩ := lies.two F1
      go_wp2_with fail
      refine bodyPost_ret (v := .tuple #[.agg #[.int .i64 na, .slice aa la ca], .int .i64 f]) (by simp [results, Try.results25, go_sem, x0, x1]) rfl ⟨dref.ret_res FB (by omega) _ _, na, aa, la, ca, vs, f, rfl, hAns, ?_⟩
      exact ((hBlk.far hlt 0 _).far hlt 1 _).mono (by omega)
end Go.Proofs.Ytallgbpijndmeaa.tight
