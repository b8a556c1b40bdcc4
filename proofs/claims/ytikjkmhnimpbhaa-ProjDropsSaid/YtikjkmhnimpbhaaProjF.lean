/-
  What the laws of layer 7 share: calls at told matrices, what the answers of package proj mean; each theorem names its conditions.
-/
import Derived.Test.YtikjkmhnimpbhaaProjC
import Derived.Test.YtikjkmhnimpbhaaInclC
namespace Go.Proofs.Ytikjkmhnimpbhaa.plaw
open Go.Joins Go.ChangeShapes Go.WideShapes Go.ChangeAt Go.RowKit num dbm Go.Proofs.Ytikjkmhnimpbhaa.tight Go.Proofs.Ytikjkmhnimpbhaa.tlaw Go.Proofs.Ytikjkmhnimpbhaa.proj
open bound hiding up
set_option linter.unusedVariables false
set_option linter.unusedSimpArgs false

theorem of_is (n : Int) (a : Option Addr) (l c : Nat) (w : World) :
    Calls Try.prog 10 #[.int .i64 n, .slice a l c] w fun e w' => e = .returned (.agg #[.int .i64 n, .slice a l c]) ∧ Below w.heap.size w w' := by
  go_enter Try.func10, Try.ntmps10
  go_wp2_with fail
  exact bodyPost_ret (v := .agg #[.int .i64 n, .slice a l c]) (by simp [results, Try.results10, go_sem]) rfl ⟨rfl, bound.up1 _ _⟩

set_option maxRecDepth 100000 in
set_option maxHeartbeats 1000000 in
theorem is_yes (n : Int) (sv tv : Value) (ts : List Int) (w : World) (hI : law.Ints w.heap.size w sv ts) (hJ : law.Ints w.heap.size w tv ts) (hm : ts.length ≤ 1000000) :
    Calls Try.prog 14 #[.agg #[.int .i64 n, sv], .int .i64 0, .agg #[.int .i64 n, tv]] w fun e w' => e = .returned (.bool true) ∧ Below w.heap.size w w' := by
  obtain ⟨DB, D0, D1, D2⟩ := (show Below w.heap.size w ((w.alloc (.cells #[.int .i64 n, sv] 24)).alloc (.cells #[.int .i64 n, tv] 24)) ∧ lies.Lies ((w.alloc (.cells #[.int .i64 n, sv] 24)).alloc (.cells #[.int .i64 n, tv] 24)) w.heap.size 24 #[.int .i64 n, sv] ∧ lies.Lies ((w.alloc (.cells #[.int .i64 n, sv] 24)).alloc (.cells #[.int .i64 n, tv] 24)) (w.heap.size + 1) 24 #[.int .i64 n, tv] ∧ True from ⟨bound.up2 _ _ _, lies.on_alloc (lies.made w _ _) _, lies.made_at _ _ _ _ (World.size_alloc _ _), trivial⟩)
  obtain ⟨ad, cap, rfl⟩ := ints_len hI
  obtain ⟨bd, dap, rfl⟩ := ints_len hJ
  have HI := Lib.hid hI
  have HJ := Lib.hid hJ
  clear hI hJ
  go_enter Try.func14, Try.ntmps14
  obtain ⟨x0, x1, x2, x3, x4⟩ := lies.two D0
  obtain ⟨y0, y1, y2, y3, y4⟩ := lies.two D1
  go_wp2_with fail
  refine (dref.same_true n _ _ ts ts _ ((HI.out.below DB).mono DB.size) ((HJ.out.below DB).mono DB.size) hm rfl).mono ?_
  rintro e w1 ⟨rfl, hB1⟩
  have K := DB.trans (hB1.mono DB.size)
  clear x0 x1 x2 x3 x4 y0 y1 y2 y3 y4 D0 D1 D2 DB hB1
  go_wp2_with fail
  go_ret
  exact ⟨rfl, K⟩

/-! what the answers mean -/
theorem grow_yes {n na f : Int} {ts us : List Int} (h : GrowR n ts na us f) (hm : MayD n ts) (h4 : n < 4) : na = ((n.toNat + 1 : Nat) : Int) ∧ us = growT n.toNat ts ∧ f = 0 := by
  rcases h with ⟨h, _⟩ | ⟨_, h, _⟩ | ⟨_, _, h⟩
  · exact (h hm).elim
  · omega
  · exact h
theorem grow_full {n na f : Int} {ts us : List Int} (h : GrowR n ts na us f) (hm : MayD n ts) (h4 : n = 4) : na = 0 ∧ us = [] ∧ f = 9 := by
  rcases h with ⟨h, _⟩ | ⟨_, _, h⟩ | ⟨_, h, _⟩
  · exact (h hm).elim
  · exact h
  · omega
theorem drop_yes {n k na f : Int} {ts us : List Int} (h : DropR n ts k na us f) (hok : OkD n ts) (hk : Kc n k) : na = ((n.toNat - 1 : Nat) : Int) ∧ us = dropT n.toNat k.toNat ts ∧ f = 0 := by
  rcases h with ⟨h, _⟩ | ⟨_, h, _⟩ | ⟨_, _, h, _⟩ | ⟨_, _, h⟩
  · exact (h hok.1).elim
  · exact (h hk).elim
  · exact (h hok).elim
  · exact h
theorem drop_arg {n k na f : Int} {ts us : List Int} (h : DropR n ts k na us f) (hm : MayD n ts) (hk : ¬ Kc n k) : na = 0 ∧ us = [] ∧ f = 2 := by
  rcases h with ⟨h, _⟩ | ⟨_, _, h⟩ | ⟨_, h, _⟩ | ⟨_, h, _⟩
  · exact (h hm).elim
  · exact h
  · exact (hk h).elim
  · exact (hk h).elim
theorem drop_none {n k na f : Int} {ts us : List Int} (h : DropR n ts k na us f) (hm : MayD n ts) (hk : Kc n k) (hno : ¬ OkD n ts) : na = 0 ∧ us = [] ∧ f = 6 := by
  rcases h with ⟨h, _⟩ | ⟨_, h, _⟩ | ⟨_, _, _, h⟩ | ⟨h, _⟩
  · exact (h hm).elim
  · exact (h hk).elim
  · exact h
  · exact (hno h).elim
/-- where there is no error. -/
theorem drop_zero {n k na : Int} {ts us : List Int} (h : DropR n ts k na us 0) : OkD n ts ∧ Kc n k ∧ na = ((n.toNat - 1 : Nat) : Int) ∧ us = dropT n.toNat k.toNat ts := by
  rcases h with ⟨_, _, _, h⟩ | ⟨_, _, _, _, h⟩ | ⟨_, _, _, _, _, h⟩ | ⟨h1, h2, h3, h4, _⟩
  · exact absurd h (by decide)
  · exact absurd h (by decide)
  · exact absurd h (by decide)
  · exact ⟨h1, h2, h3, h4⟩
theorem grow_zero {n na : Int} {ts us : List Int} (h : GrowR n ts na us 0) : MayD n ts ∧ n < 4 ∧ na = ((n.toNat + 1 : Nat) : Int) ∧ us = growT n.toNat ts := by
  rcases h with ⟨_, _, _, h⟩ | ⟨_, _, _, _, h⟩ | ⟨h1, h2, h3, h4, _⟩
  · exact absurd h (by decide)
  · exact absurd h (by decide)
  · exact ⟨h1, h2, h3, h4⟩
theorem move_zero {n na : Int} {ts os us : List Int} (h : MoveR n ts os na us 0) : MayD n ts ∧ Ord n.toNat os ∧ na = n ∧ us = moveT n.toNat (ordF os) ts := by
  rcases h with ⟨_, _, _, h⟩ | ⟨_, _, _, _, h⟩ | ⟨h1, h2, h3, h4, _⟩
  · exact absurd h (by decide)
  · exact absurd h (by decide)
  · exact ⟨h1, h2, h3, h4⟩
/-- beside an error there is nothing. -/
theorem grow_nil {n na f : Int} {ts us : List Int} (h : GrowR n ts na us f) (hf : f ≠ 0) : us = [] := by
  rcases h with ⟨_, _, h, _⟩ | ⟨_, _, _, h, _⟩ | ⟨_, _, _, _, h⟩
  · exact h
  · exact h
  · exact (hf h).elim
theorem move_nil {n na f : Int} {ts os us : List Int} (h : MoveR n ts os na us f) (hf : f ≠ 0) : us = [] := by
  rcases h with ⟨_, _, h, _⟩ | ⟨_, _, _, h, _⟩ | ⟨_, _, _, _, h⟩
  · exact h
  · exact h
  · exact (hf h).elim
theorem move_yes {n na f : Int} {ts os us : List Int} (h : MoveR n ts os na us f) (hm : MayD n ts) (ho : Ord n.toNat os) : na = n ∧ us = moveT n.toNat (ordF os) ts ∧ f = 0 := by
  rcases h with ⟨h, _⟩ | ⟨_, h, _⟩ | ⟨_, _, h⟩
  · exact (h hm).elim
  · exact (h ho).elim
  · exact h
theorem move_arg {n na f : Int} {ts os us : List Int} (h : MoveR n ts os na us f) (hm : MayD n ts) (ho : ¬ Ord n.toNat os) : na = 0 ∧ us = [] ∧ f = 2 := by
  rcases h with ⟨h, _⟩ | ⟨_, _, h⟩ | ⟨_, h, _⟩
  · exact (h hm).elim
  · exact h
  · exact (ho h).elim
theorem blk_len {n₀ : Nat} {W : World} {aa : Option Addr} {la ca : Nat} {us : List Int} (h : Blk n₀ W aa la ca us) : la = us.length := by
  rcases h with ⟨_, rfl, _, rfl⟩ | ⟨_, _, _, h, _⟩
  · rfl
  · exact h

theorem int_ints {w : World} {g : Nat} {t : TypeId} {us : List Int} {cap : Nat} (h : lies.Lies w g t (cellsOf us)) : law.Ints w.heap.size w (.slice (some ⟨g, 0, none⟩) us.length cap) us :=
  .inr ⟨g, 0, cap, rfl, lies.lt h, fun j hj => by rw [Nat.zero_add]; exact (lies.cell h j).trans (cells_at us j hj)⟩
set_option maxRecDepth 100000 in
/-- a fraction by value. -/
theorem open_rat {H : Type} {enc : TypeId × Value → H} {W : World} {v : Value} {d : DataW H} {p : List MemPlace} {base : Nat}
    (hok : Value.okWide Try.prog W .any base 51 v) (h : DataW.Trod enc Try.prog W 0 (fun _ => true) true 51 v d p) :
    ∃ a b, v = .agg #[.int .i64 (a), .int .i64 (b)] ∧ (Lit.int .i64 a).wf = true ∧ (Lit.int .i64 b).wf = true := by
  obtain ⟨v0, v1, y0, y1, n, rfl, _, _, h0, h1⟩ := open_agg2 Try.underlying51 (by kernel_rfl) (by kernel_rfl) hok h
  obtain ⟨a, ha, _, wa⟩ := DataW.trod_int Try.underlying3 h0
  obtain ⟨b, hb, _, wb⟩ := DataW.trod_int Try.underlying3 h1
  simp only [List.cons.injEq, and_true] at ha hb
  subst ha hb
  exact ⟨a, b, rfl, wa, wb⟩

/-! told matrices -/
theorem grow2_is (g : Nat) (w : World) (hg : lies.Lies w g 29 (cellsOf [1, -3, 9, 1])) :
    Calls Try.prog 12 #[.agg #[.int .i64 2, .slice (some ⟨g, 0, none⟩) 4 4]] w fun e w' => Below w.heap.size w w' ∧ ∃ aa la ca, e = .returned (.tuple #[.agg #[.int .i64 3, .slice aa la ca], .int .i64 0]) ∧ Blk w.heap.size w' aa la ca [1, -3, 9223372036854775807, 9, 1, 9223372036854775807, 9223372036854775807, 9223372036854775807, 1] := by
  refine (grow_any 2 _ [1, -3, 9, 1] w (dlaw.own_ints (cap := 4) hg) (by decide) (by unfold Tops; decide)).mono fun e w' h => ?_
  obtain ⟨hB, na, aa, la, ca, us, f, rfl, hR, hK⟩ := h
  obtain ⟨h1, h2, rfl⟩ := grow_yes hR (by decide) (by decide)
  obtain rfl : na = 3 := h1
  obtain rfl : us = [1, -3, 9223372036854775807, 9, 1, 9223372036854775807, 9223372036854775807, 9223372036854775807, 1] := h2.trans (by decide +kernel)
  exact ⟨hB, aa, la, ca, rfl, hK⟩
theorem drop3_is (g : Nat) (w : World) (hg : lies.Lies w g 29 (cellsOf [1, -3, 9223372036854775807, 9, 1, 9223372036854775807, 9223372036854775807, 3, 1])) :
    Calls Try.prog 11 #[.agg #[.int .i64 3, .slice (some ⟨g, 0, none⟩) 9 9], .int .i64 1] w fun e w' => Below w.heap.size w w' ∧ ∃ aa la ca, e = .returned (.tuple #[.agg #[.int .i64 2, .slice aa la ca], .int .i64 0]) ∧ Blk w.heap.size w' aa la ca [1, 9223372036854775807, 11, 1] := by
  refine (drop_any 3 1 _ [1, -3, 9223372036854775807, 9, 1, 9223372036854775807, 9223372036854775807, 3, 1] w (dlaw.own_ints (cap := 9) hg) (by decide) (by unfold Tops; decide)).mono fun e w' h => ?_
  obtain ⟨hB, na, aa, la, ca, us, f, rfl, hR, hK⟩ := h
  have hok : OkD (3 : Nat) [1, -3, 9223372036854775807, 9, 1, 9223372036854775807, 9223372036854775807, 3, 1] := (okB_iff (m := 3) (by decide) _).1 (by decide +kernel)
  obtain ⟨h1, h2, rfl⟩ := drop_yes hR hok ⟨by decide, by decide⟩
  obtain rfl : na = 2 := h1
  obtain rfl : us = [1, 9223372036854775807, 11, 1] := h2.trans (by decide +kernel)
  exact ⟨hB, aa, la, ca, rfl, hK⟩

set_option maxRecDepth 100000 in
set_option maxHeartbeats 4000000 in
theorem alive_yes (w : World) : Calls Try.prog 13 #[] w fun e w' => e = .returned (.bool true) ∧ Below w.heap.size w w' := by
  have S := St.start w
  go_enter Try.func13, Try.ntmps13
  go_wp2_with fail
  have A : lies.Lies ((w).alloc (.cells #[.int .i64 1, .int .i64 (-3), .int .i64 9, .int .i64 1] 29)) (w.heap.size) 29 (cellsOf [1, -3, 9, 1]) := by simpa [cellsOf] using lies.made_at (w) 29 #[.int .i64 1, .int .i64 (-3), .int .i64 9, .int .i64 1] (w.heap.size) (by simp)
  replace S := S.alloc (.cells #[.int .i64 1, .int .i64 (-3), .int .i64 9, .int .i64 1] 29)
  generalize (w).alloc (.cells #[.int .i64 1, .int .i64 (-3), .int .i64 9, .int .i64 1] 29) = u1 at A S ⊢
  refine (of_is 2 _ 4 4 u1).mono ?_
  rintro e w1 ⟨rfl, hB⟩
  replace S := S.below hB
  replace A := lies.on_call A hB
  clear hB
  go_wp2_with fail
  refine (grow2_is _ w1 A).mono ?_
  rintro e w2 ⟨hB, a2, l2, c2, rfl, K2⟩
  replace S := (S.below hB).add 3 _ _ K2.ints
  clear hB A K2
  go_wp2_with fail
  have A : lies.Lies ((w2.alloc (.cells #[.int .i64 3, .slice a2 l2 c2] 24)).alloc (.cells #[.int .i64 1, .int .i64 (-3), .int .i64 9223372036854775807, .int .i64 9, .int .i64 1, .int .i64 9223372036854775807, .int .i64 9223372036854775807, .int .i64 3, .int .i64 1] 29)) (w2.heap.size + 1) 29 (cellsOf [1, -3, 9223372036854775807, 9, 1, 9223372036854775807, 9223372036854775807, 3, 1]) := by simpa [cellsOf] using lies.made_at (w2.alloc (.cells #[.int .i64 3, .slice a2 l2 c2] 24)) 29 #[.int .i64 1, .int .i64 (-3), .int .i64 9223372036854775807, .int .i64 9, .int .i64 1, .int .i64 9223372036854775807, .int .i64 9223372036854775807, .int .i64 3, .int .i64 1] (w2.heap.size + 1) (by simp)
  replace S := S.alloc (.cells #[.int .i64 1, .int .i64 (-3), .int .i64 9223372036854775807, .int .i64 9, .int .i64 1, .int .i64 9223372036854775807, .int .i64 9223372036854775807, .int .i64 3, .int .i64 1] 29)
  generalize (w2.alloc (.cells #[.int .i64 3, .slice a2 l2 c2] 24)).alloc (.cells #[.int .i64 1, .int .i64 (-3), .int .i64 9223372036854775807, .int .i64 9, .int .i64 1, .int .i64 9223372036854775807, .int .i64 9223372036854775807, .int .i64 3, .int .i64 1] 29) = u3 at A S ⊢
  generalize w2.heap.size = B2 at A S ⊢
  refine (of_is 3 _ 9 9 u3).mono ?_
  rintro e w3 ⟨rfl, hB⟩
  replace S := S.below hB
  replace A := lies.on_call A hB
  clear hB
  go_wp2_with fail
  refine (drop3_is _ w3 A).mono ?_
  rintro e w4 ⟨hB, a4, l4, c4, rfl, K4⟩
  replace S := (S.below hB).add 2 _ _ K4.ints
  clear hB A K4
  go_wp2_with fail
  generalize w4.alloc (.cells #[.int .i64 2, .slice a4 l4 c4] 24) = v0 at S ⊢
  generalize w4.heap.size = B4 at S ⊢
  obtain ⟨H4, I4⟩ := S.head
  obtain ⟨H2, I2⟩ := S.tail.head
  have K0 := S.1
  clear S
  refine wp_region_held_drew (S := Below v0.heap.size v0) (by kernel_rfl) (dbm.drawn1 (Below.refl _ _)) (fun hHeld => ?_)
  refine wpAnyH_take (i := 0) (v := ?_) rfl (by kernel_rfl) (by kernel_rfl) (by kernel_rfl) (fun _ _ _ h => h) (Or.inl ⟨by rfl, ?_⟩) hHeld ?_
  rotate_left
  · intro w hSw; obtain ⟨a0, a1⟩ := dlaw.at_s H2 hSw; obtain ⟨a2, a3⟩ := dlaw.at_s H4 hSw; go_simp; try with_reducible rfl
  try simp only [Act.put, List.getElem_toArray, List.getElem_cons_zero, List.getElem_cons_succ, List.setIfInBounds_toArray, List.set_cons_zero, List.set_cons_succ]
  refine wpAnyH_take (i := 1) (v := ?_) rfl (by kernel_rfl) (by kernel_rfl) (by kernel_rfl) (fun _ _ _ h => h) (Or.inl ⟨by rfl, ?_⟩) hHeld ?_
  rotate_left
  · intro w hSw; obtain ⟨a0, a1⟩ := dlaw.at_s H2 hSw; obtain ⟨a2, a3⟩ := dlaw.at_s H4 hSw; go_simp; try with_reducible rfl
  try simp only [Act.put, List.getElem_toArray, List.getElem_cons_zero, List.getElem_cons_succ, List.setIfInBounds_toArray, List.set_cons_zero, List.set_cons_succ]
  refine wpAnyH_ready (rs := [2]) (by kernel_rfl) (by simp) (AllReadyH.cons rfl (fun K hK => ?_) AllReadyH.nil)
  go_simp
  have A : lies.Lies (v0.drew.alloc (.cells #[.int .i64 1, .int .i64 (-3), .int .i64 9223372036854775807, .int .i64 9, .int .i64 1, .int .i64 9223372036854775807, .int .i64 9223372036854775807, .int .i64 9223372036854775807, .int .i64 1] 29)) v0.heap.size 29 (cellsOf [1, -3, 9223372036854775807, 9, 1, 9223372036854775807, 9223372036854775807, 9223372036854775807, 1]) := by simpa [cellsOf] using lies.made v0.drew 29 #[.int .i64 1, .int .i64 (-3), .int .i64 9223372036854775807, .int .i64 9, .int .i64 1, .int .i64 9223372036854775807, .int .i64 9223372036854775807, .int .i64 9223372036854775807, .int .i64 1]
  refine hK.out _ _ (hHeld.trans ((bound.up1 v0.drew (.cells #[.int .i64 1, .int .i64 (-3), .int .i64 9223372036854775807, .int .i64 9, .int .i64 1, .int .i64 9223372036854775807, .int .i64 9223372036854775807, .int .i64 9223372036854775807, .int .i64 1] 29)).mono hHeld.size)) (fun hNew => ?_)
  clear hHeld hK K
  have hHeld := hNew
  clear hNew
  try simp only [Act.put, List.getElem_toArray, List.getElem_cons_zero, List.getElem_cons_succ, List.setIfInBounds_toArray, List.set_cons_zero, List.set_cons_succ]
  refine wpAnyH_ready (rs := [3]) (by kernel_rfl) (by simp) (AllReadyH.cons rfl (fun K hK => ?_) AllReadyH.nil)
  go_simp
  refine (of_is 3 _ 9 9 _).mono ?_
  rintro e u1 ⟨rfl, hB⟩
  replace A := lies.on_call A hB
  refine hK.out _ _ (hHeld.trans (hB.mono hHeld.size)) (fun hNew => ?_)
  clear hB
  clear hHeld hK K
  have hHeld := hNew
  clear hNew
  try simp only [Act.put, List.getElem_toArray, List.getElem_cons_zero, List.getElem_cons_succ, List.setIfInBounds_toArray, List.set_cons_zero, List.set_cons_succ]
  refine wpAnyH_ready (rs := [4]) (by kernel_rfl) (by simp) (AllReadyH.cons rfl (fun K hK => ?_) AllReadyH.nil)
  go_simp
  refine (is_yes 3 _ _ [1, -3, 9223372036854775807, 9, 1, 9223372036854775807, 9223372036854775807, 9223372036854775807, 1] _ ((I2.below hHeld).mono hHeld.size) (dlaw.own_ints (cap := 9) A) (by decide)).mono ?_
  rintro e u2 ⟨rfl, hB⟩
  refine hK.out _ _ (hHeld.trans (hB.mono hHeld.size)) (fun hNew => ?_)
  clear hB A
  clear hHeld hK K
  have hHeld := hNew
  clear hNew
  try simp only [Act.put, List.getElem_toArray, List.getElem_cons_zero, List.getElem_cons_succ, List.setIfInBounds_toArray, List.set_cons_zero, List.set_cons_succ]
  refine wpAnyH_take (i := 5) (v := ?_) rfl (by kernel_rfl) (by kernel_rfl) (by kernel_rfl) (fun _ _ _ h => h) (Or.inl ⟨by rfl, ?_⟩) hHeld ?_
  rotate_left
  · intro w hSw; obtain ⟨a0, a1⟩ := dlaw.at_s H2 hSw; obtain ⟨a2, a3⟩ := dlaw.at_s H4 hSw; go_simp; try with_reducible rfl
  try simp only [Act.put, List.getElem_toArray, List.getElem_cons_zero, List.getElem_cons_succ, List.setIfInBounds_toArray, List.set_cons_zero, List.set_cons_succ]
  refine wpAnyH_take (i := 6) (v := ?_) rfl (by kernel_rfl) (by kernel_rfl) (by kernel_rfl) (fun _ _ _ h => h) (Or.inl ⟨by rfl, ?_⟩) hHeld ?_
  rotate_left
  · intro w hSw; obtain ⟨a0, a1⟩ := dlaw.at_s H2 hSw; obtain ⟨a2, a3⟩ := dlaw.at_s H4 hSw; go_simp; try with_reducible rfl
  try simp only [Act.put, List.getElem_toArray, List.getElem_cons_zero, List.getElem_cons_succ, List.setIfInBounds_toArray, List.set_cons_zero, List.set_cons_succ]
  refine wpAnyH_take (i := 7) (v := ?_) rfl (by kernel_rfl) (by kernel_rfl) (by kernel_rfl) (fun _ _ _ h => h) (Or.inl ⟨by rfl, ?_⟩) hHeld ?_
  rotate_left
  · intro w hSw; obtain ⟨a0, a1⟩ := dlaw.at_s H2 hSw; obtain ⟨a2, a3⟩ := dlaw.at_s H4 hSw; go_simp; try with_reducible rfl
  try simp only [Act.put, List.getElem_toArray, List.getElem_cons_zero, List.getElem_cons_succ, List.setIfInBounds_toArray, List.set_cons_zero, List.set_cons_succ]
  refine wpAnyH_ready (rs := [8]) (by kernel_rfl) (by simp) (AllReadyH.cons rfl (fun K hK => ?_) AllReadyH.nil)
  go_simp
  have A : lies.Lies (u2.alloc (.cells #[.int .i64 1, .int .i64 9223372036854775807, .int .i64 11, .int .i64 1] 29)) u2.heap.size 29 (cellsOf [1, 9223372036854775807, 11, 1]) := by simpa [cellsOf] using lies.made u2 29 #[.int .i64 1, .int .i64 9223372036854775807, .int .i64 11, .int .i64 1]
  refine hK.out _ _ (hHeld.trans ((bound.up1 u2 (.cells #[.int .i64 1, .int .i64 9223372036854775807, .int .i64 11, .int .i64 1] 29)).mono hHeld.size)) (fun hNew => ?_)
  clear hHeld hK K
  have hHeld := hNew
  clear hNew
  try simp only [Act.put, List.getElem_toArray, List.getElem_cons_zero, List.getElem_cons_succ, List.setIfInBounds_toArray, List.set_cons_zero, List.set_cons_succ]
  refine wpAnyH_ready (rs := [9]) (by kernel_rfl) (by simp) (AllReadyH.cons rfl (fun K hK => ?_) AllReadyH.nil)
  go_simp
  refine (of_is 2 _ 4 4 _).mono ?_
  rintro e u3 ⟨rfl, hB⟩
  replace A := lies.on_call A hB
  refine hK.out _ _ (hHeld.trans (hB.mono hHeld.size)) (fun hNew => ?_)
  clear hB
  clear hHeld hK K
  have hHeld := hNew
  clear hNew
  try simp only [Act.put, List.getElem_toArray, List.getElem_cons_zero, List.getElem_cons_succ, List.setIfInBounds_toArray, List.set_cons_zero, List.set_cons_succ]
  refine wpAnyH_ready (rs := [10]) (by kernel_rfl) (by simp) (AllReadyH.cons rfl (fun K hK => ?_) AllReadyH.nil)
  go_simp
  refine (is_yes 2 _ _ [1, 9223372036854775807, 11, 1] _ ((I4.below hHeld).mono hHeld.size) (dlaw.own_ints (cap := 4) A) (by decide)).mono ?_
  rintro e u4 ⟨rfl, hB⟩
  refine hK.out _ _ (hHeld.trans (hB.mono hHeld.size)) (fun hNew => ?_)
  clear hB A
  clear hHeld hK K
  have hHeld := hNew
  clear hNew
  try simp only [Act.put, List.getElem_toArray, List.getElem_cons_zero, List.getElem_cons_succ, List.setIfInBounds_toArray, List.set_cons_zero, List.set_cons_succ]
  refine wpAnyH_take (i := 11) (v := ?_) rfl (by kernel_rfl) (by kernel_rfl) (by kernel_rfl) (fun _ _ _ h => h) (Or.inl ⟨by rfl, ?_⟩) hHeld ?_
  rotate_left
  · intro w hSw; skip; go_simp; try with_reducible rfl
  try simp only [Act.put, List.getElem_toArray, List.getElem_cons_zero, List.getElem_cons_succ, List.setIfInBounds_toArray, List.set_cons_zero, List.set_cons_succ]
  refine wpAnyH_take (i := 12) (v := ?_) rfl (by kernel_rfl) (by kernel_rfl) (by kernel_rfl) (fun _ _ _ h => h) (Or.inl ⟨by rfl, ?_⟩) hHeld ?_
  rotate_left
  · intro w hSw; skip; go_simp; try with_reducible rfl
  try simp only [Act.put, List.getElem_toArray, List.getElem_cons_zero, List.getElem_cons_succ, List.setIfInBounds_toArray, List.set_cons_zero, List.set_cons_succ]
  refine wpAnyH_done (by kernel_rfl) ?_ _
  have KZ := K0.trans (hHeld.mono K0.size)
  clear hHeld H2 H4 I2 I4
  go_wp2_with fail
  go_ret
  exact ⟨rfl, KZ⟩
end Go.Proofs.Ytikjkmhnimpbhaa.plaw
