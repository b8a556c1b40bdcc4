/-
  ProjTells answers true for every matrix, clock and order; no condition.
-/
import Derived.Test.YtikjkmhnimpbhaaProjG
import Derived.Test.YtikjkmhnimpbhaaProjH
import Derived.BigQuiet
namespace Go.Proofs.Ytikjkmhnimpbhaa.projTells
open Go.Joins Go.ChangeShapes Go.WideShapes Go.ChangeAt Go.RowKit num dbm Go.Proofs.Ytikjkmhnimpbhaa.tight Go.Proofs.Ytikjkmhnimpbhaa.tlaw Go.Proofs.Ytikjkmhnimpbhaa.proj plaw dref
open bound hiding up
set_option linter.unusedVariables false
set_option linter.unusedSimpArgs false

theorem drop_one {n k na nb f g : Int} {ts us vs : List Int} (h : DropR n ts k na us f) (h' : DropR n ts k nb vs g) : nb = na ∧ vs = us ∧ g = f := by
  rcases h with ⟨a, rfl, rfl, rfl⟩ | ⟨a, b, rfl, rfl, rfl⟩ | ⟨a, b, c, rfl, rfl, rfl⟩ | ⟨a, b, rfl, rfl, rfl⟩ <;> rcases h' with ⟨a', rfl, rfl, rfl⟩ | ⟨a', b', rfl, rfl, rfl⟩ | ⟨a', b', c', rfl, rfl, rfl⟩ | ⟨a', b', rfl, rfl, rfl⟩
  all_goals first | exact ⟨rfl, rfl, rfl⟩ | exact (a a').elim | exact (a' a).elim | exact (a a'.1).elim | exact (a' a.1).elim | exact (b b').elim | exact (b' b).elim | exact (c a').elim | exact (c' a).elim
theorem grow_one {n na nb f g : Int} {ts us vs : List Int} (h : GrowR n ts na us f) (h' : GrowR n ts nb vs g) : nb = na ∧ vs = us ∧ g = f := by
  rcases h with ⟨a, rfl, rfl, rfl⟩ | ⟨a, b, rfl, rfl, rfl⟩ | ⟨a, b, rfl, rfl, rfl⟩ <;> rcases h' with ⟨a', rfl, rfl, rfl⟩ | ⟨a', b', rfl, rfl, rfl⟩ | ⟨a', b', rfl, rfl, rfl⟩
  all_goals first | exact ⟨rfl, rfl, rfl⟩ | exact (a a').elim | exact (a' a).elim | omega
theorem move_one {n na nb f g : Int} {ts os us vs : List Int} (h : MoveR n ts os na us f) (h' : MoveR n ts os nb vs g) : nb = na ∧ vs = us ∧ g = f := by
  rcases h with ⟨a, rfl, rfl, rfl⟩ | ⟨a, b, rfl, rfl, rfl⟩ | ⟨a, b, rfl, rfl, rfl⟩ <;> rcases h' with ⟨a', rfl, rfl, rfl⟩ | ⟨a', b', rfl, rfl, rfl⟩ | ⟨a', b', rfl, rfl, rfl⟩
  all_goals first | exact ⟨rfl, rfl, rfl⟩ | exact (a a').elim | exact (a' a).elim | exact (b b').elim | exact (b' b).elim
theorem sq_small {n : Int} {ts : List Int} (h : MayD n ts) : ∃ m : Nat, n = m ∧ m ≤ 4 := by
  obtain ⟨m, e, _, hn, _⟩ := may_nat h
  exact ⟨m, e, hn⟩
theorem drop_len {n k na f : Int} {ts us : List Int} (h : DropR n ts k na us f) : us.length ≤ 1000 := by
  rcases h with ⟨_, _, rfl, _⟩ | ⟨_, _, _, rfl, _⟩ | ⟨_, _, _, _, rfl, _⟩ | ⟨a, _, _, rfl, _⟩
  · simp
  · simp
  · simp
  · obtain ⟨m, rfl, hm⟩ := sq_small a.1
    rw [dropT_length, Int.toNat_natCast]
    have := sq_le (n := m - 1) (by omega)
    omega
theorem grow_len {n na f : Int} {ts us : List Int} (h : GrowR n ts na us f) : us.length ≤ 1000 := by
  rcases h with ⟨_, _, rfl, _⟩ | ⟨_, _, _, rfl, _⟩ | ⟨a, b, _, rfl, _⟩
  · simp
  · simp
  · obtain ⟨m, rfl, hm⟩ := sq_small a
    rw [growT_length, Int.toNat_natCast]
    have := sq_le (n := m + 1) (by omega)
    omega
theorem move_len {n na f : Int} {ts os us : List Int} (h : MoveR n ts os na us f) : us.length ≤ 1000 := by
  rcases h with ⟨_, _, rfl, _⟩ | ⟨_, _, _, rfl, _⟩ | ⟨a, b, _, rfl, _⟩
  · simp
  · simp
  · obtain ⟨m, rfl, hm⟩ := sq_small a
    rw [Int.toNat_natCast]
    show (laidT m m (ordF os) ts).length ≤ 1000
    rw [laidT_length]
    have := sq_le hm
    omega
theorem step (w : World) (n : Nat) (o : Obj) (h : n ≤ w.heap.size) : Below n w (w.alloc o) := (Below.refl _ w).alloc h o
/-- a result's own block, between two lines. -/
def BlkT (n₀ n₁ : Nat) (W : World) (aa : Option Addr) (la ca : Nat) : Prop := (aa = none ∧ la = 0) ∨ ∃ g vs, n₀ ≤ g ∧ g < n₁ ∧ aa = some ⟨g, 0, none⟩ ∧ la = vs.length ∧ lies.Lies W g 29 (cellsOf vs)
theorem BlkT.of {n₀ n₁ : Nat} {W : World} {aa : Option Addr} {la ca : Nat} {us : List Int} (h : Blk n₀ W aa la ca us) (k : W.heap.size ≤ n₁) : BlkT n₀ n₁ W aa la ca := by
  rcases h with ⟨h1, h2, _⟩ | ⟨g, h1, h2, h3, h4⟩
  · exact .inl ⟨h1, h2⟩
  · exact .inr ⟨g, us, h1, Nat.lt_of_lt_of_le (lies.lt h4) k, h2, h3, h4⟩
theorem BlkT.below {n₀ n₁ : Nat} {W X : World} {aa : Option Addr} {la ca : Nat} (h : BlkT n₀ n₁ W aa la ca) (k : Below n₁ W X) : BlkT n₀ n₁ X aa la ca := by
  rcases h with h | ⟨g, vs, h1, h2, h3, h4, h5⟩
  · exact .inl h
  · exact .inr ⟨g, vs, h1, h2, h3, h4, (k.block _ h2).trans h5⟩

set_option maxRecDepth 100000 in
set_option maxHeartbeats 1000000 in
theorem walk_far (n k : Int) (sv ov : Value) (ts os : List Int) (w : World) (hI : law.Ints w.heap.size w sv ts) (hO : law.Ints w.heap.size w ov os) (h : 1000 < ts.length ∨ (ts.length ≤ 1000 ∧ 100 < os.length)) :
    Calls Try.prog 4 #[.agg #[.int .i64 n, sv], .int .i64 k, ov] w fun e w' => e = .returned (.bool true) ∧ Below w.heap.size w w' := by
  obtain ⟨ad, cap, rfl⟩ := ints_len hI
  obtain ⟨ad2, cap2, rfl⟩ := ints_len hO
  clear hI hO
  rcases h with h | ⟨h, h2⟩
  · have t1 : (1000 : Int) < ts.length := by omega
    go_enter Try.func4, Try.ntmps4
    go_wp2_with fail
    go_ret
    exact ⟨rfl, bound.up1 _ _⟩
  · have t1 : ¬ (1000 : Int) < ts.length := by omega
    have t2 : (100 : Int) < os.length := by omega
    go_enter Try.func4, Try.ntmps4
    go_wp2_with fail
    go_ret
    exact ⟨rfl, bound.up1 _ _⟩

set_option maxRecDepth 100000 in
set_option maxHeartbeats 8000000 in
theorem walk_in (n k : Int) (sv ov : Value) (ts os : List Int) (w : World) (hI : law.Ints w.heap.size w sv ts) (hO : law.Ints w.heap.size w ov os) (h1 : ts.length ≤ 1000) (h2 : os.length ≤ 100) (hlo : Low ts) (htop : Tops ts) :
    Calls Try.prog 4 #[.agg #[.int .i64 n, sv], .int .i64 k, ov] w fun e w' => e = .returned (.bool true) ∧ Below w.heap.size w w' := by
  have S := (St.start w).add n sv ts hI
  obtain ⟨ad, cap, rfl⟩ := ints_len hI
  obtain ⟨ad2, cap2, rfl⟩ := ints_len hO
  have t1 : ¬ (1000 : Int) < ts.length := by omega
  have t2 : ¬ (100 : Int) < os.length := by omega
  have HLO := Lib.hid hlo
  have HT := Lib.hid htop
  have HO := Lib.hid hO
  clear hI hO hlo htop
  go_enter Try.func4, Try.ntmps4
  go_wp2_with fail
  generalize w.alloc (.cells #[.int .i64 n, .slice ad ts.length cap] 24) = v0 at S ⊢
  refine (twin_ref n _ ts _ S.head.2 (by omega)).mono ?_
  rintro e v1 ⟨hB, tv, rfl, hO⟩
  have hI1 := dref.ints_own hO
  obtain ⟨a1, c1, rfl⟩ := ints_len hI1
  replace S := (S.below hB).add n _ ts hI1
  clear hB hO hI1
  go_wp2_with fail
  generalize v1.heap.size = B1 at S ⊢
  generalize v1.alloc (.cells #[.int .i64 n, .slice a1 ts.length c1] 24) = w1 at S ⊢
  have NN := StN.of S
  generalize hn0 : w1.heap.size = n₀ at NN
  refine (drop_any n k _ ts _ S.head.2 (by omega) HT.out).mono ?_
  rintro e v2 ⟨hB, n2, a2, l2, c2, us2, f2, rfl, hR2, hK⟩
  have HR2 := Lib.hid hR2
  have GAL := Lib.hid (show l2 ≤ 1000 by have := blk_len hK; have := drop_len hR2; omega)
  rw [hn0] at hK
  have GA := hK.below (step v2 v2.heap.size (.cells #[.int .i64 n2, .slice a2 l2 c2] 24) (Nat.le_refl _))
  replace NN := (NN.below (hB.mono (Nat.le_of_eq hn0.symm))).below (step v2 n₀ (.cells #[.int .i64 n2, .slice a2 l2 c2] 24) (Nat.le_trans (Nat.le_of_eq hn0.symm) hB.size))
  replace S := (S.below hB).add n2 _ us2 hK.ints
  clear hB hR2 hK
  obtain ⟨x0, x1, x2, x3, x4⟩ := lies.two S.tail.tail.head.1
  go_wp2_with fail
  clear x0 x1 x2 x3 x4
  generalize v2.heap.size = B2 at S ⊢
  generalize v2.alloc (.cells #[.int .i64 n2, .slice a2 l2 c2] 24) = w2 at S NN GA ⊢
  clear hn0
  refine (pref.rdrop_any n k _ ts _ S.tail.tail.head.2 (by omega) HLO.out HT.out).mono ?_
  rintro e v3 ⟨hB, n3, a3, l3, c3, us3, f3, rfl, hR3, hI3⟩
  obtain ⟨rfl, rfl, rfl⟩ := drop_one HR2.out hR3
  have hl3 : us3.length ≤ 1000 := drop_len HR2.out
  replace NN := (NN.below (hB.mono NN.2.2.1)).below (step v3 n₀ (.cells #[.int .i64 n3, .slice a3 l3 c3] 24) (Nat.le_trans NN.2.2.1 hB.size))
  replace GA := (GA.below hB).below (step v3 v3.heap.size (.cells #[.int .i64 n3, .slice a3 l3 c3] 24) (Nat.le_refl _))
  replace S := (S.below hB).add n3 _ us3 hI3
  clear hB hR3 HR2 hI3
  obtain ⟨x0, x1, x2, x3, x4⟩ := lies.two S.tail.tail.head.1
  go_wp2_with fail
  clear x0 x1 x2 x3 x4
  generalize v3.heap.size = B3 at S ⊢
  generalize v3.alloc (.cells #[.int .i64 n3, .slice a3 l3 c3] 24) = w3 at S NN GA ⊢
  refine (grow_any n _ ts _ S.tail.tail.head.2 (by omega) HT.out).mono ?_
  rintro e v4 ⟨hB, n4, a4, l4, c4, us4, f4, rfl, hR4, hK⟩
  have HR4 := Lib.hid hR4
  replace NN := (NN.below (hB.mono NN.2.2.1)).below (step v4 n₀ (.cells #[.int .i64 n4, .slice a4 l4 c4] 24) (Nat.le_trans NN.2.2.1 hB.size))
  replace GA := (GA.below hB).below (step v4 v4.heap.size (.cells #[.int .i64 n4, .slice a4 l4 c4] 24) (Nat.le_refl _))
  replace S := (S.below hB).add n4 _ us4 hK.ints
  clear hB hR4 hK
  obtain ⟨x0, x1, x2, x3, x4⟩ := lies.two S.tail.tail.tail.tail.head.1
  go_wp2_with fail
  clear x0 x1 x2 x3 x4
  generalize v4.heap.size = B4 at S ⊢
  generalize v4.alloc (.cells #[.int .i64 n4, .slice a4 l4 c4] 24) = w4 at S NN GA ⊢
  refine (pref.rgrow_any n _ ts _ S.tail.tail.tail.tail.head.2 (by omega) HLO.out HT.out).mono ?_
  rintro e v5 ⟨hB, n5, a5, l5, c5, us5, f5, rfl, hR5, hI5⟩
  obtain ⟨rfl, rfl, rfl⟩ := grow_one HR4.out hR5
  have hl5 : us5.length ≤ 1000 := grow_len HR4.out
  replace NN := (NN.below (hB.mono NN.2.2.1)).below (step v5 n₀ (.cells #[.int .i64 n5, .slice a5 l5 c5] 24) (Nat.le_trans NN.2.2.1 hB.size))
  replace GA := (GA.below hB).below (step v5 v5.heap.size (.cells #[.int .i64 n5, .slice a5 l5 c5] 24) (Nat.le_refl _))
  replace S := (S.below hB).add n5 _ us5 hI5
  clear hB hR5 HR4 hI5
  obtain ⟨x0, x1, x2, x3, x4⟩ := lies.two S.tail.tail.tail.tail.head.1
  go_wp2_with fail
  clear x0 x1 x2 x3 x4
  generalize v5.heap.size = B5 at S ⊢
  generalize v5.alloc (.cells #[.int .i64 n5, .slice a5 l5 c5] 24) = w5 at S NN GA ⊢
  have hj0 : n₀ ≤ w5.heap.size := NN.2.2.1
  have NJ := StN.of (S.sub (cs := []) (by simp))
  replace GA := BlkT.of GA (Nat.le_refl _)
  generalize hnJ : w5.heap.size = nJ at hj0 NJ GA
  refine (move_any n _ _ ts os _ S.tail.tail.tail.tail.head.2 (by omega) HT.out ((HO.out.below S.1).mono S.1.size)).mono ?_
  rintro e v6 ⟨hB, n6, a6, l6, c6, us6, f6, rfl, hR6, hK⟩
  have HR6 := Lib.hid hR6
  rw [hnJ] at hK
  have GJ := hK.below (step v6 v6.heap.size (.cells #[.int .i64 n6, .slice a6 l6 c6] 24) (Nat.le_refl _))
  replace NN := (NN.below (hB.mono NN.2.2.1)).below (step v6 n₀ (.cells #[.int .i64 n6, .slice a6 l6 c6] 24) (Nat.le_trans NN.2.2.1 hB.size))
  replace GA := (GA.below (hB.mono NJ.2.2.1)).below (step v6 nJ (.cells #[.int .i64 n6, .slice a6 l6 c6] 24) (Nat.le_trans NJ.2.2.1 hB.size))
  replace S := (S.below hB).add n6 _ us6 hK.ints
  replace NJ := (NJ.below (hB.mono NJ.2.2.1)).below (step v6 nJ (.cells #[.int .i64 n6, .slice a6 l6 c6] 24) (Nat.le_trans NJ.2.2.1 hB.size))
  clear hB hR6 hK
  obtain ⟨x0, x1, x2, x3, x4⟩ := lies.two S.tail.tail.tail.tail.tail.tail.head.1
  go_wp2_with fail
  clear x0 x1 x2 x3 x4
  generalize v6.heap.size = B6 at S ⊢
  generalize v6.alloc (.cells #[.int .i64 n6, .slice a6 l6 c6] 24) = w6 at S NN GA GJ NJ ⊢
  refine (pref.rmove_any n _ _ ts os _ S.tail.tail.tail.tail.tail.tail.head.2 (by omega) HLO.out HT.out ((HO.out.below S.1).mono S.1.size)).mono ?_
  rintro e v7 ⟨hB, n7, a7, l7, c7, us7, f7, rfl, hR7, hI7⟩
  obtain ⟨rfl, rfl, rfl⟩ := move_one HR6.out hR7
  have hl7 : us7.length ≤ 1000 := move_len HR6.out
  replace NN := (NN.below (hB.mono NN.2.2.1)).below (step v7 n₀ (.cells #[.int .i64 n7, .slice a7 l7 c7] 24) (Nat.le_trans NN.2.2.1 hB.size))
  replace GA := (GA.below (hB.mono NJ.2.2.1)).below (step v7 nJ (.cells #[.int .i64 n7, .slice a7 l7 c7] 24) (Nat.le_trans NJ.2.2.1 hB.size))
  replace GJ := (GJ.below hB).below (step v7 v7.heap.size (.cells #[.int .i64 n7, .slice a7 l7 c7] 24) (Nat.le_refl _))
  replace S := (S.below hB).add n7 _ us7 hI7
  replace NJ := (NJ.below (hB.mono NJ.2.2.1)).below (step v7 nJ (.cells #[.int .i64 n7, .slice a7 l7 c7] 24) (Nat.le_trans NJ.2.2.1 hB.size))
  clear hB hR7 HR6 hI7
  obtain ⟨x0, x1, x2, x3, x4⟩ := lies.two S.tail.tail.tail.tail.tail.head.1
  obtain ⟨y0, y1, y2, y3, y4⟩ := lies.two S.tail.tail.tail.tail.head.1
  go_wp2_with fail
  clear x0 x1 x2 x3 x4 y0 y1 y2 y3 y4
  generalize v7.heap.size = B7 at S ⊢
  generalize v7.alloc (.cells #[.int .i64 n7, .slice a7 l7 c7] 24) = w7 at S NN GA GJ NJ ⊢
  refine (dref.same_true n3 _ _ us3 us3 _ S.tail.tail.tail.tail.tail.head.2 S.tail.tail.tail.tail.head.2 (by omega) rfl).mono ?_
  rintro e w8 ⟨rfl, hB⟩
  replace S := S.below hB
  replace NN := NN.below (hB.mono NN.2.2.1)
  replace GA := GA.below (hB.mono NJ.2.2.1)
  replace GJ := GJ.below hB
  replace NJ := NJ.below (hB.mono NJ.2.2.1)
  clear hB
  have hff : (f3 == f3) = true := by simp
  obtain ⟨x0, x1, x2, x3, x4⟩ := lies.two S.tail.tail.tail.head.1
  obtain ⟨y0, y1, y2, y3, y4⟩ := lies.two S.tail.tail.head.1
  go_wp2_with fail
  clear x0 x1 x2 x3 x4 y0 y1 y2 y3 y4 hff
  refine (dref.same_true n5 _ _ us5 us5 _ S.tail.tail.tail.head.2 S.tail.tail.head.2 (by omega) rfl).mono ?_
  rintro e w9 ⟨rfl, hB⟩
  replace S := S.below hB
  replace NN := NN.below (hB.mono NN.2.2.1)
  replace GA := GA.below (hB.mono NJ.2.2.1)
  replace GJ := GJ.below hB
  replace NJ := NJ.below (hB.mono NJ.2.2.1)
  clear hB
  have hff : (f5 == f5) = true := by simp
  obtain ⟨x0, x1, x2, x3, x4⟩ := lies.two S.tail.head.1
  obtain ⟨y0, y1, y2, y3, y4⟩ := lies.two S.head.1
  go_wp2_with fail
  clear x0 x1 x2 x3 x4 y0 y1 y2 y3 y4 hff
  refine (dref.same_true n7 _ _ us7 us7 _ S.tail.head.2 S.head.2 (by omega) rfl).mono ?_
  rintro e w10 ⟨rfl, hB⟩
  replace S := S.below hB
  replace NN := NN.below (hB.mono NN.2.2.1)
  replace GA := GA.below (hB.mono NJ.2.2.1)
  replace GJ := GJ.below hB
  replace NJ := NJ.below (hB.mono NJ.2.2.1)
  clear hB
  have hff : (f7 == f7) = true := by simp
  have LA := S.tail.tail.tail.tail.tail.head.1
  have LJ := S.tail.head.1
  clear S
  go_wp2_with fail
  clear hff
  have hl6 : l6 ≤ 1000 := by
    rcases GJ with ⟨_, h, _, _⟩ | ⟨_, _, _, h, _⟩ <;> omega
  have hl2 : l2 ≤ 1000 := by
    have := GAL.out
    omega
  go_loopw [21] (fun q wr => ∃ p : Nat, p ≤ l6 ∧ q = .int .i64 p ∧ StN n₀ [(B1, n, .slice a1 ts.length c1, ts), (w.heap.size, n, .slice ad ts.length cap, ts)] w wr ∧ lies.Lies wr B2 24 #[.int .i64 n3, .slice a2 l2 c2] ∧ BlkT n₀ nJ wr a2 l2 c2 ∧ lies.Lies wr B6 24 #[.int .i64 n7, .slice a6 l6 c6] ∧ ∃ vs, Blk nJ wr a6 l6 c6 vs) (fun q _ => l6 - (intOf q).toNat)
  case atStart => exact ⟨0, Nat.zero_le _, rfl, NN, LA, GA, LJ, _, GJ⟩
  case round =>
    clear NN LA GA LJ GJ NJ
    obtain ⟨p, hp, rfl, NN, LA, GA, LJ, vs, GJ⟩ := hrel
    obtain ⟨y0, y1, y2, y3, y4⟩ := lies.two LJ
    by_cases hpl : p < l6
    · rcases GJ with ⟨rfl, rfl, _, _⟩ | ⟨g, hg, rfl, hlv, hL⟩
      · omega
      · have hne := ne_type hL LJ (by decide)
        have hne2 := ne_type hL LA (by decide)
        have hc := (lies.cell hL p).trans (cells_at vs p (by omega))
        have hf := lies.free hL p
        have hgl := lies.lt hL
        have hg0 : n₀ ≤ g := by omega
        generalize vs[p]?.getD 0 = z at hc
        have z1 : (0 : Int) ≤ p := by omega
        have z2 : (p : Int) < l6 := by omega
        go_wp2_with fail
        have hL2 := lies.on_put hL p (.int .i64 (wrap64 (z + 1)))
        rw [cells_set] at hL2
        go_roundw
        case rel => exact ⟨p + 1, by omega, by go_num, NN.below ((Below.refl _ _).setCell (p := ⟨g, p, none⟩) hg0 _), lies.on_far LA p (Ne.symm hne2) _, GA.below ((Below.refl _ _).setCell (p := ⟨g, p, none⟩) hg _), lies.on_far LJ p (Ne.symm hne) _, _, .inr ⟨g, hg, rfl, by rw [List.length_set]; exact hlv, hL2⟩⟩
        case measure => simp [intOf]; omega
    · obtain rfl : l6 = p := by omega
      go_wp2_with fail
      clear y0 y1 y2 y3 y4
      go_loopw [22] (fun q wx => ∃ p : Nat, p ≤ l2 ∧ q = .int .i64 p ∧ StN n₀ [(B1, n, .slice a1 ts.length c1, ts), (w.heap.size, n, .slice ad ts.length cap, ts)] w wx ∧ lies.Lies wx B2 24 #[.int .i64 n3, .slice a2 l2 c2] ∧ BlkT n₀ nJ wx a2 l2 c2) (fun q _ => l2 - (intOf q).toNat)
      case atStart => exact ⟨0, Nat.zero_le _, rfl, NN, LA, GA⟩
      case round =>
        clear NN LA GA LJ GJ
        obtain ⟨p, hp, rfl, NN, LA, GA⟩ := hrel
        obtain ⟨y0, y1, y2, y3, y4⟩ := lies.two LA
        by_cases hpl : p < l2
        · rcases GA with ⟨rfl, rfl⟩ | ⟨g, vs, hg, hgJ, rfl, hlv, hL⟩
          · omega
          · have hne := ne_type hL LA (by decide)
            have hc := (lies.cell hL p).trans (cells_at vs p (by omega))
            have hf := lies.free hL p
            have hgl := lies.lt hL
            generalize vs[p]?.getD 0 = z at hc
            have z1 : (0 : Int) ≤ p := by omega
            have z2 : (p : Int) < l2 := by omega
            go_wp2_with fail
            have hL2 := lies.on_put hL p (.int .i64 (wrap64 (z + 1)))
            rw [cells_set] at hL2
            go_roundw
            case rel => exact ⟨p + 1, by omega, by go_num, NN.below ((Below.refl _ _).setCell (p := ⟨g, p, none⟩) hg _), lies.on_far LA p (Ne.symm hne) _, .inr ⟨g, _, hg, hgJ, rfl, by rw [List.length_set]; exact hlv, hL2⟩⟩
            case measure => simp [intOf]; omega
        · obtain rfl : l2 = p := by omega
          have S := NN.back
          obtain ⟨u0, u1, u2, u3, u4⟩ := lies.two S.head.1
          obtain ⟨t0, t1', t2', t3, t4⟩ := lies.two S.tail.head.1
          clear NN GA LA
          go_wp2_with fail
          clear u0 u1 u2 u3 u4 t0 t1' t2' t3 t4 y0 y1 y2 y3 y4
          refine (dref.same_true n _ _ ts ts _ S.head.2 S.tail.head.2 (by omega) rfl).mono ?_
          rintro e wz ⟨rfl, hB⟩
          have K2 := (S.below hB).1
          clear hB S
          go_wp2_with fail
          go_ret
          exact ⟨rfl, K2⟩

theorem walk (n k : Int) (sv ov : Value) (ts os : List Int) (w : World) (hI : law.Ints w.heap.size w sv ts) (hO : law.Ints w.heap.size w ov os) (hlo : Low ts) (htop : Tops ts) :
    Calls Try.prog 4 #[.agg #[.int .i64 n, sv], .int .i64 k, ov] w fun e w' => e = .returned (.bool true) ∧ Below w.heap.size w w' := by
  by_cases h : 1000 < ts.length ∨ (ts.length ≤ 1000 ∧ 100 < os.length)
  · exact walk_far n k sv ov ts os w hI hO h
  · exact walk_in n k sv ov ts os w hI hO (by omega) (by omega) hlo htop

set_option maxRecDepth 100000 in
theorem lifted (os : Os) (started : os.Started) (H : Type) (enc : TypeId × Value → H) :
    ReturnsInHanded {} Try.checked os 4 .any (Rows.projTellsSpec.pre6 enc Try.prog Try.f4 Rows.projTellsRow.domain false) (Rows.projTellsSpec.post enc Try.prog Try.f4 false true false false) := by
  refine returnsInHanded_of_change (C := Try.checked) law.own started (by kernel_rfl) Try.func4
    (ChangeSpec.witness6 (enc := enc) (C := Try.checked) false ⟨#[], #[.agg #[.int .i64 0, .slice none 0 0], .int .i64 0, .slice none 0 0], []⟩ 8 (by kernel_rfl) (by kernel_rfl) (by kernel_rfl) (by kernel_rfl)) ?_
  intro W base args ds gs before hval0 hW _ _
  have hval : ∀ (j : Nat) t v, Try.f4.params[j]? = some t → args[j]? = some v → Value.okWide Try.prog W .any base t v := hval0
  have hW' := hW
  obtain ⟨p, q, hA0, hV, rfl, _, _⟩ := hW
  have hA : DataW.TrodAll enc Try.prog W 0 (fun _ => true) true Try.f4.params.toList args.toList ds p := hA0
  rw [Try.params4] at hA hval
  obtain ⟨v0, vs0, d0, ds0, p0, q0, hargs, rfl, rfl, h0, r0⟩ := trodAll_cons hA
  obtain ⟨v1, vs1, d1, ds1, p1, q1, rfl, rfl, rfl, h1, r1⟩ := trodAll_cons r0
  obtain ⟨v2, vs2, d2, ds2, p2, q2, rfl, rfl, rfl, h2, r2⟩ := trodAll_cons r1
  obtain ⟨rfl, rfl, rfl⟩ := trodAll_nil r2
  obtain rfl : args = #[v0, v1, v2] := by cases args; simp_all
  obtain ⟨n0, sv0, ts0, rfl, _, hwf0, hI0, _⟩ := dlaw.open_dbm (hval 0 24 v0 rfl rfl) h0
  obtain ⟨a1, rfl, rfl, rfl, x1⟩ := open_int Try.underlying3 (hval 1 3 v1 rfl rfl) h1
  obtain ⟨oa2, ol2, oc2, os2, rfl, hl2, hm2, _, hI2⟩ := law.slice_ints Try.underlying30 Try.underlying3 (by kernel_rfl) (hval 2 30 v2 rfl rfl) h2
  refine (walk n0 a1 sv0 _ ts0 os2 W hI0 hI2 (fun z hz => law.wf_lo (hwf0 z hz)) (fun z hz => law.wf_hi (hwf0 z hz))).mono fun e W' ⟨he, hB⟩ => ?_
  subst he
  exact ⟨_, rfl, law.post_true law.laidOut (by kernel_rfl) rfl Try.underlying4 rfl hW' (fun h => by subst h; rfl) hB⟩

theorem proved : Rows.ProjTellsSaid :=
  OpenClaim.holds_of_wide 4 Try.f4 rfl rfl rfl rfl rfl rfl rfl ⟨rfl, rfl, rfl, rfl, rfl⟩ rfl rfl rfl rfl rfl (by kernel_rfl) Try.func4 (by kernel_rfl)
    (of_decide_eq_true (by kernel_rfl)) (by unfold Func.isWrapper; first | (rw [if_pos (by decide +kernel)]; kernel_rfl) | (rw [if_neg (by decide +kernel)]; exact ⟨rfl, rfl⟩))
    (fun os started H enc _ => lifted os started H enc)
#print axioms proved
end Go.Proofs.Ytikjkmhnimpbhaa.projTells
