/-
  TightTells answers true for every two matrices, clocks, bound and span; no condition.
-/
import Derived.Test.YtallgbpijndmeaaTightOpen
import Derived.Test.YtallgbpijndmeaaTightRef5
import Derived.OpenShut
import Derived.BigQuiet
namespace Go.Proofs.Ytallgbpijndmeaa.tightTells
open Go.ChangeShapes Go.WideShapes Go.ChangeAt Go.RowKit num dbm dref Go.Proofs.Ytallgbpijndmeaa.tight tlaw
open bound hiding up
set_option linter.unusedVariables false
set_option linter.unusedSimpArgs false

/-- what lies below a line that is no longer turned: boxes, with what they hold. -/
def StN (n₀ : Nat) (bs : List Bx) (w W : World) : Prop := Below w.heap.size w W ∧ w.heap.size ≤ n₀ ∧ n₀ ≤ W.heap.size ∧ ∀ b ∈ bs, b.1 < n₀ ∧ lies.Lies W b.1 24 #[.int .i64 b.2.1, b.2.2.1] ∧ law.Ints n₀ W b.2.2.1 b.2.2.2
theorem StN.of {bs : List Bx} {w W : World} (h : St bs w W) : StN W.heap.size bs w W := ⟨h.1, h.1.size, Nat.le_refl _, fun b hb => ⟨lies.lt (h.2 b hb).1, h.2 b hb⟩⟩
theorem StN.below {n₀ : Nat} {bs : List Bx} {w W X : World} (h : StN n₀ bs w W) (k : Below n₀ W X) : StN n₀ bs w X :=
  ⟨h.1.trans (k.mono h.2.1), h.2.1, Nat.le_trans h.2.2.1 k.size, fun b hb => ⟨(h.2.2.2 b hb).1, (k.block _ (h.2.2.2 b hb).1).trans (h.2.2.2 b hb).2.1, (h.2.2.2 b hb).2.2.below k⟩⟩

theorem Res.len {n : Int} {q : Option (List Int)} {err na f : Int} {us : List Int} (h : Res n q err na us f) (k : ∀ ts, q = some ts → ts.length ≤ 1000) : us.length ≤ 1000 := by
  rcases h with ⟨_, _, rfl, _⟩ | ⟨ts, h0, h⟩
  · simp
  · exact Nat.le_trans (tlaw.Ans.len h) (k ts h0)
theorem setQ_len {n i j x : Int} {ts q : List Int} (h : setQ n ts i j x = some q) : q.length = ts.length := by
  unfold setQ at h
  split at h
  · cases h; exact setT_length _ _ _
  · cases h
theorem meetQ_len {n m : Int} {ts us q : List Int} (h : meetQ n m ts us = some q) : q.length = ts.length := by
  unfold meetQ at h
  split at h
  · cases h; exact lesT_length _ _
  · cases h
theorem btwQ_len {n i lo hi : Int} {ls hs op : Bool} {ts q : List Int} (h : btwQ n ts i lo ls hi hs op = some q) : q.length = ts.length := by
  unfold btwQ at h
  split at h
  · cases h; exact setAll_length _ _ _
  · cases h
theorem step (w : World) (n : Nat) (o : Obj) (h : n ≤ w.heap.size) : Below n w (w.alloc o) := (Below.refl _ w).alloc h o
set_option maxRecDepth 100000 in
set_option maxHeartbeats 1000000 in
theorem walk_far (n m i j x lo hi : Int) (ls hs op : Bool) (sv tv : Value) (ts us : List Int) (w : World) (hI : law.Ints w.heap.size w sv ts) (hJ : law.Ints w.heap.size w tv us) (h : 1000 < ts.length ∨ (ts.length ≤ 1000 ∧ 1000 < us.length)) :
    Calls Try.prog 4 #[.agg #[.int .i64 n, sv], .agg #[.int .i64 m, tv], .int .i64 i, .int .i64 j, .int .i64 x, .agg #[.int .i64 lo, .bool ls, .int .i64 hi, .bool hs, .bool op]] w fun e w' => e = .returned (.bool true) ∧ Below w.heap.size w w' := by
  obtain ⟨ad, cap, rfl⟩ := ints_len hI
  obtain ⟨bd, dap, rfl⟩ := ints_len hJ
  clear hI hJ
  rcases h with h | ⟨h, h2⟩
  · have t1 : (1000 : Int) < ts.length := by omega
    go_enter Try.func4, Try.ntmps4
    go_wp2_with fail
    go_ret
    exact ⟨rfl, bound.up3 _ _ _ _⟩
  · have t1 : ¬ (1000 : Int) < ts.length := by omega
    have t2 : (1000 : Int) < us.length := by omega
    go_enter Try.func4, Try.ntmps4
    go_wp2_with fail
    go_ret
    exact ⟨rfl, bound.up3 _ _ _ _⟩

set_option maxRecDepth 100000 in
set_option maxHeartbeats 8000000 in
theorem walk_in (n m i j x lo hi : Int) (ls hs op : Bool) (sv tv : Value) (ts us : List Int) (w : World) (hI : law.Ints w.heap.size w sv ts) (hJ : law.Ints w.heap.size w tv us) (h1 : ts.length ≤ 1000) (h2 : us.length ≤ 1000) (hlo : Low ts) (hlu : Low us) (htop : Tops ts) (hto : Tops us) (x1 : -9223372036854775808 ≤ x) (x2 : x ≤ 9223372036854775807) :
    Calls Try.prog 4 #[.agg #[.int .i64 n, sv], .agg #[.int .i64 m, tv], .int .i64 i, .int .i64 j, .int .i64 x, .agg #[.int .i64 lo, .bool ls, .int .i64 hi, .bool hs, .bool op]] w fun e w' => e = .returned (.bool true) ∧ Below w.heap.size w w' := by
  obtain ⟨ad, cap, rfl⟩ := ints_len hI
  obtain ⟨bd, dap, rfl⟩ := ints_len hJ
  have t1 : ¬ (1000 : Int) < ts.length := by omega
  have t2 : ¬ (1000 : Int) < us.length := by omega
  have HLO := Lib.hid hlo
  have HLU := Lib.hid hlu
  have HT := Lib.hid htop
  have HU := Lib.hid hto
  have HI := Lib.hid hI
  have HJ := Lib.hid hJ
  clear hI hJ hlo hlu htop hto
  have S0 : St [(w.heap.size + 1, m, .slice bd us.length dap, us), (w.heap.size, n, .slice ad ts.length cap, ts)] w (((w.alloc (.cells #[.int .i64 n, .slice ad ts.length cap] 24)).alloc (.cells #[.int .i64 m, .slice bd us.length dap] 24)).alloc (.cells #[.int .i64 lo, .bool ls, .int .i64 hi, .bool hs, .bool op] 33)) := by
    have K : Below w.heap.size w (((w.alloc (.cells #[.int .i64 n, .slice ad ts.length cap] 24)).alloc (.cells #[.int .i64 m, .slice bd us.length dap] 24)).alloc (.cells #[.int .i64 lo, .bool ls, .int .i64 hi, .bool hs, .bool op] 33)) := bound.up3 _ _ _ _
    refine ⟨K, fun b hb => ?_⟩
    rcases List.mem_cons.1 hb with rfl | hb
    · exact ⟨lies.on_alloc (lies.made_at _ _ _ _ (World.size_alloc _ _)) _, (HJ.out.below K).mono K.size⟩
    · obtain rfl := List.mem_singleton.1 hb
      exact ⟨lies.on_alloc (lies.on_alloc (lies.made _ _ _) _) _, (HI.out.below K).mono K.size⟩
  have P0 := lies.made_at ((w.alloc (.cells #[.int .i64 n, .slice ad ts.length cap] 24)).alloc (.cells #[.int .i64 m, .slice bd us.length dap] 24)) 33 #[.int .i64 lo, .bool ls, .int .i64 hi, .bool hs, .bool op] (w.heap.size + 1 + 1) (by simp)
  go_enter Try.func4, Try.ntmps4
  go_wp2_with fail
  generalize (((w.alloc (.cells #[.int .i64 n, .slice ad ts.length cap] 24)).alloc (.cells #[.int .i64 m, .slice bd us.length dap] 24)).alloc (.cells #[.int .i64 lo, .bool ls, .int .i64 hi, .bool hs, .bool op] 33)) = v0 at S0 P0 ⊢
  refine (twin_ref n _ ts _ S0.tail.head.2 (by omega)).mono ?_
  rintro e v1 ⟨hB, tv, rfl, hO⟩
  have hI1 := ints_own hO
  obtain ⟨a1, c1, rfl⟩ := ints_len hI1
  have S1 := (S0.below hB).add n _ ts hI1
  have P1 := lies.on_alloc (lies.on_call P0 hB) (.cells #[.int .i64 n, .slice a1 ts.length c1] 24)
  clear S0 P0 hB hO hI1
  go_wp2_with fail
  generalize v1.heap.size = B1 at S1 ⊢
  generalize v1.alloc (.cells #[.int .i64 n, .slice a1 ts.length c1] 24) = w1 at S1 P1 ⊢
  refine (tight.set_any n i j x _ ts _ S1.head.2 (by omega) HT.out x2).mono ?_
  rintro e v2 ⟨hB, n2, a2, l2, c2, us2, f2, rfl, hR2, hK⟩
  have S2 := (S1.below hB).add n2 _ us2 hK.ints
  have P2 := lies.on_alloc (lies.on_call P1 hB) (.cells #[.int .i64 n2, .slice a2 l2 c2] 24)
  have HR2 := Lib.hid hR2
  clear S1 P1 hB hK hR2
  obtain ⟨x0, x1', x2', x3, x4⟩ := lies.two S2.tail.tail.tail.head.1
  go_wp2_with fail
  clear x0 x1' x2' x3 x4
  generalize v2.heap.size = B2 at S2 ⊢
  generalize v2.alloc (.cells #[.int .i64 n2, .slice a2 l2 c2] 24) = w2 at S2 P2 ⊢
  refine (tref.set_any n i j x _ ts _ S2.tail.tail.tail.head.2 (by omega) HLO.out HT.out (by omega) x2).mono ?_
  rintro e v3 ⟨hB, n3, a3, l3, c3, us3, f3, rfl, hR3, hO⟩
  obtain ⟨rfl, rfl, rfl⟩ := Res.one HR2.out hR3
  have S3 := (S2.below hB).add n3 _ us3 (dref.ints_own hO)
  have P3 := lies.on_alloc (lies.on_call P2 hB) (.cells #[.int .i64 n3, .slice a3 l3 c3] 24)
  clear S2 P2 hB hO hR3
  obtain ⟨x0, x1', x2', x3, x4⟩ := lies.two S3.tail.tail.head.1
  obtain ⟨y0, y1', y2', y3, y4⟩ := lies.two S3.tail.tail.tail.head.1
  go_wp2_with fail
  clear x0 x1' x2' x3 x4 y0 y1' y2' y3 y4
  generalize v3.heap.size = B3 at S3 ⊢
  generalize v3.alloc (.cells #[.int .i64 n3, .slice a3 l3 c3] 24) = w3 at S3 P3 ⊢
  have SN : StN w3.heap.size [(B1, n, .slice a1 ts.length c1, ts), (w.heap.size, n, .slice ad ts.length cap, ts)] w w3 := StN.of (S3.sub (by simp))
  generalize hn0 : w3.heap.size = n₀ at SN
  refine (tight.meet_any n m _ _ ts us _ S3.tail.tail.head.2 S3.tail.tail.tail.head.2 (by omega) (by omega) HT.out HU.out).mono ?_
  rintro e v4 ⟨hB, n4, a4, l4, c4, us4, f4, rfl, hR4, hKG⟩
  have S4 := (S3.below hB).add n4 _ us4 hKG.ints
  have P4 := lies.on_alloc (lies.on_call P3 hB) (.cells #[.int .i64 n4, .slice a4 l4 c4] 24)
  have N4 := (SN.below (hB.mono (Nat.le_of_eq hn0.symm))).below (step v4 n₀ (.cells #[.int .i64 n4, .slice a4 l4 c4] 24) (by have := hB.size; omega))
  rw [hn0] at hKG
  have G4 := hKG.below (step v4 v4.heap.size (.cells #[.int .i64 n4, .slice a4 l4 c4] 24) (Nat.le_refl _))
  have hgb : n₀ ≤ v4.heap.size := by have := hB.size; omega
  have HR4 := Lib.hid hR4
  clear S3 P3 hB hKG hR4 SN
  obtain ⟨x0, x1', x2', x3, x4⟩ := lies.two S4.tail.tail.tail.tail.head.1
  obtain ⟨y0, y1', y2', y3, y4⟩ := lies.two S4.tail.tail.tail.tail.tail.head.1
  go_wp2_with fail
  clear x0 x1' x2' x3 x4 y0 y1' y2' y3 y4 hn0
  generalize v4.heap.size = B4 at S4 hgb ⊢
  generalize v4.alloc (.cells #[.int .i64 n4, .slice a4 l4 c4] 24) = w4 at S4 P4 N4 G4 ⊢
  refine (tref.meet_any n m _ _ ts us _ S4.tail.tail.tail.tail.tail.head.2 S4.tail.tail.tail.tail.head.2 (by omega) (by omega) HLO.out HLU.out HT.out HU.out).mono ?_
  rintro e v5 ⟨hB, n5, a5, l5, c5, us5, f5, rfl, hR5, hO⟩
  obtain ⟨rfl, rfl, rfl⟩ := Res.one HR4.out hR5
  have S5 := (S4.below hB).add n5 _ us5 (dref.ints_own hO)
  have P5 := lies.on_alloc (lies.on_call P4 hB) (.cells #[.int .i64 n5, .slice a5 l5 c5] 24)
  have N5 := (N4.below (hB.mono N4.2.2.1)).below (step v5 n₀ (.cells #[.int .i64 n5, .slice a5 l5 c5] 24) (Nat.le_trans N4.2.2.1 hB.size))
  have G5 := (G4.below hB).below (step v5 v5.heap.size (.cells #[.int .i64 n5, .slice a5 l5 c5] 24) (Nat.le_refl _))
  clear S4 P4 hB hO hR5 N4 G4
  obtain ⟨x0, x1', x2', x3, x4⟩ := lies.two S5.tail.tail.tail.tail.head.1
  obtain ⟨y0, y1', y2', y3, y4, y5⟩ := five P5
  go_wp2_with fail
  clear x0 x1' x2' x3 x4 y0 y1' y2' y3 y4 y5
  generalize v5.heap.size = B5 at S5 ⊢
  generalize v5.alloc (.cells #[.int .i64 n5, .slice a5 l5 c5] 24) = w5 at S5 P5 N5 G5 ⊢
  refine (tight.btw_any n i lo hi ls hs op _ ts _ S5.tail.tail.tail.tail.head.2 (by omega) HT.out).mono ?_
  rintro e v6 ⟨hB, n6, a6, l6, c6, us6, f6, rfl, hR6, hK⟩
  have S6 := (S5.below hB).add n6 _ us6 hK.ints
  have P6 := lies.on_alloc (lies.on_call P5 hB) (.cells #[.int .i64 n6, .slice a6 l6 c6] 24)
  have N6 := (N5.below (hB.mono N5.2.2.1)).below (step v6 n₀ (.cells #[.int .i64 n6, .slice a6 l6 c6] 24) (Nat.le_trans N5.2.2.1 hB.size))
  have G6 := (G5.below hB).below (step v6 v6.heap.size (.cells #[.int .i64 n6, .slice a6 l6 c6] 24) (Nat.le_refl _))
  have HR6 := Lib.hid hR6
  clear S5 P5 hB hK hR6 N5 G5
  obtain ⟨x0, x1', x2', x3, x4⟩ := lies.two S6.tail.tail.tail.tail.tail.tail.tail.head.1
  obtain ⟨y0, y1', y2', y3, y4, y5⟩ := five P6
  go_wp2_with fail
  clear x0 x1' x2' x3 x4 y0 y1' y2' y3 y4 y5
  generalize v6.heap.size = B6 at S6 ⊢
  generalize v6.alloc (.cells #[.int .i64 n6, .slice a6 l6 c6] 24) = w6 at S6 P6 N6 G6 ⊢
  refine (tref.btw_any n i lo hi ls hs op _ ts _ S6.tail.tail.tail.tail.tail.tail.tail.head.2 (by omega) HLO.out HT.out).mono ?_
  rintro e v7 ⟨hB, n7, a7, l7, c7, us7, f7, rfl, hR7, hO⟩
  obtain ⟨rfl, rfl, rfl⟩ := Res.one HR6.out hR7
  have S7 := (S6.below hB).add n7 _ us7 (dref.ints_own hO)
  have N7 := (N6.below (hB.mono N6.2.2.1)).below (step v7 n₀ (.cells #[.int .i64 n7, .slice a7 l7 c7] 24) (Nat.le_trans N6.2.2.1 hB.size))
  have G7 := (G6.below hB).below (step v7 v7.heap.size (.cells #[.int .i64 n7, .slice a7 l7 c7] 24) (Nat.le_refl _))
  clear S6 P6 hB hO hR7 N6 G6
  have hl3 : us3.length ≤ 1000 := Res.len HR2.out (fun q hq => by rw [setQ_len hq]; exact h1)
  have hl5 : us5.length ≤ 1000 := Res.len HR4.out (fun q hq => by rw [meetQ_len hq]; exact h1)
  have hl7 : us7.length ≤ 1000 := Res.len HR6.out (fun q hq => by rw [btwQ_len hq]; exact h1)
  obtain ⟨x0, x1', x2', x3, x4⟩ := lies.two S7.tail.tail.tail.tail.tail.head.1
  obtain ⟨y0, y1', y2', y3, y4⟩ := lies.two S7.tail.tail.tail.tail.head.1
  go_wp2_with fail
  clear x0 x1' x2' x3 x4 y0 y1' y2' y3 y4
  generalize v7.heap.size = B7 at S7 ⊢
  generalize v7.alloc (.cells #[.int .i64 n7, .slice a7 l7 c7] 24) = w7 at S7 N7 G7 ⊢
  refine (dref.same_true n3 _ _ us3 us3 _ S7.tail.tail.tail.tail.tail.head.2 S7.tail.tail.tail.tail.head.2 (by omega) rfl).mono ?_
  rintro e w8 ⟨rfl, hB⟩
  have S8 := S7.below hB
  have N8 := N7.below (hB.mono N7.2.2.1)
  have G8 := G7.below hB
  have hff : (f3 == f3) = true := by simp
  clear S7 N7 G7 hB
  obtain ⟨x0, x1', x2', x3, x4⟩ := lies.two S8.tail.tail.tail.head.1
  obtain ⟨y0, y1', y2', y3, y4⟩ := lies.two S8.tail.tail.head.1
  go_wp2_with fail
  clear x0 x1' x2' x3 x4 y0 y1' y2' y3 y4
  refine (dref.same_true n5 _ _ us5 us5 _ S8.tail.tail.tail.head.2 S8.tail.tail.head.2 (by omega) rfl).mono ?_
  rintro e w9 ⟨rfl, hB⟩
  have S9 := S8.below hB
  have N9 := N8.below (hB.mono N8.2.2.1)
  have G9 := G8.below hB
  have hf5 : (f5 == f5) = true := by simp
  clear S8 N8 G8 hB hff
  obtain ⟨x0, x1', x2', x3, x4⟩ := lies.two S9.tail.head.1
  obtain ⟨y0, y1', y2', y3, y4⟩ := lies.two S9.head.1
  go_wp2_with fail
  clear x0 x1' x2' x3 x4 y0 y1' y2' y3 y4
  refine (dref.same_true n7 _ _ us7 us7 _ S9.tail.head.2 S9.head.2 (by omega) rfl).mono ?_
  rintro e w10 ⟨rfl, hB⟩
  have S10 := S9.below hB
  have N10 := N9.below (hB.mono N9.2.2.1)
  have G10 := G9.below hB
  have hf7 : (f7 == f7) = true := by simp
  clear S9 N9 G9 hB hf5
  have L10 := S10.tail.tail.tail.head.1
  clear S10
  go_wp2_with fail
  have hl4 : l4 ≤ 1000 := by
    rcases G10 with ⟨_, h, _, _⟩ | ⟨_, _, _, h, _⟩ <;> omega
  clear HR2 HR4 HR6 hf7
  go_loopw [27] (fun q wr => ∃ p : Nat, p ≤ l4 ∧ q = .int .i64 p ∧ StN n₀ [(B1, n, .slice a1 ts.length c1, ts), (w.heap.size, n, .slice ad ts.length cap, ts)] w wr ∧ lies.Lies wr B4 24 #[.int .i64 n5, .slice a4 l4 c4] ∧ ∃ vs, Blk n₀ wr a4 l4 c4 vs) (fun q _ => l4 - (intOf q).toNat)
  case atStart => exact ⟨0, Nat.zero_le _, rfl, N10, L10, _, G10⟩
  case round =>
    clear N10 L10 G10
    obtain ⟨p, hp, rfl, N, L, vs, G⟩ := hrel
    obtain ⟨y0, y1', y2', y3, y4⟩ := lies.two L
    by_cases hpl : p < l4
    · rcases G with ⟨rfl, rfl, _, _⟩ | ⟨g, hg, rfl, hlv, hL⟩
      · omega
      · have hne := ne_type hL L (by decide)
        have hc := (lies.cell hL p).trans (cells_at vs p (by omega))
        have hf := lies.free hL p
        have hgl := lies.lt hL
        generalize vs[p]?.getD 0 = z at hc
        have z1 : (0 : Int) ≤ p := by omega
        have z2 : (p : Int) < l4 := by omega
        go_wp2_with fail
        have hL2 := lies.on_put hL p (.int .i64 (wrap64 (z + 1)))
        rw [cells_set] at hL2
        go_roundw
        case rel => exact ⟨p + 1, by omega, by go_num, N.below ((Below.refl _ _).setCell (p := ⟨g, p, none⟩) hg _), lies.on_far L p (Ne.symm hne) _, _, .inr ⟨g, hg, rfl, by rw [List.length_set]; exact hlv, hL2⟩⟩
        case measure => simp [intOf]; omega
    · obtain rfl : l4 = p := by omega
      have hO := N.2.2.2 (B1, n, .slice a1 ts.length c1, ts) (by simp)
      have hA := N.2.2.2 (w.heap.size, n, .slice ad ts.length cap, ts) (by simp)
      obtain ⟨u0, u1, u2, u3, u4⟩ := lies.two hO.2.1
      obtain ⟨t0, t1', t2', t3, t4⟩ := lies.two hA.2.1
      have C := Lib.hid (dref.same_true n _ _ ts ts wr (hO.2.2.mono N.2.2.1) (hA.2.2.mono N.2.2.1) (by omega) rfl)
      have K := N.1
      clear N L G hO hA
      go_wp2_with fail
      refine C.out.mono ?_
      rintro e wz ⟨rfl, hB⟩
      have K2 := K.trans (hB.mono K.size)
      clear C K hB u0 u1 u2 u3 u4 t0 t1' t2' t3 t4 y0 y1' y2' y3 y4
      go_wp2_with fail
      go_ret
      exact ⟨rfl, K2⟩

theorem walk (n m i j x lo hi : Int) (ls hs op : Bool) (sv tv : Value) (ts us : List Int) (w : World) (hI : law.Ints w.heap.size w sv ts) (hJ : law.Ints w.heap.size w tv us) (hlo : Low ts) (hlu : Low us) (htop : Tops ts) (hto : Tops us) (x1 : -9223372036854775808 ≤ x) (x2 : x ≤ 9223372036854775807) :
    Calls Try.prog 4 #[.agg #[.int .i64 n, sv], .agg #[.int .i64 m, tv], .int .i64 i, .int .i64 j, .int .i64 x, .agg #[.int .i64 lo, .bool ls, .int .i64 hi, .bool hs, .bool op]] w fun e w' => e = .returned (.bool true) ∧ Below w.heap.size w w' := by
  by_cases h : 1000 < ts.length ∨ (ts.length ≤ 1000 ∧ 1000 < us.length)
  · exact walk_far n m i j x lo hi ls hs op sv tv ts us w hI hJ h
  · exact walk_in n m i j x lo hi ls hs op sv tv ts us w hI hJ (by omega) (by omega) hlo hlu htop hto x1 x2

set_option maxRecDepth 100000 in
theorem lifted (os : Os) (started : os.Started) (H : Type) (enc : TypeId × Value → H) :
    ReturnsInHanded {} Try.checked os 4 .any (Rows.tightTellsSpec.pre6 enc Try.prog Try.f4 Rows.tightTellsRow.domain false) (Rows.tightTellsSpec.post enc Try.prog Try.f4 false true false false) := by
  refine returnsInHanded_of_change (C := Try.checked) law.own started (by kernel_rfl) Try.func4
    (ChangeSpec.witness6 (enc := enc) (C := Try.checked) false ⟨#[], #[.agg #[.int .i64 0, .slice none 0 0], .agg #[.int .i64 0, .slice none 0 0], .int .i64 0, .int .i64 0, .int .i64 0, .agg #[.int .i64 0, .bool false, .int .i64 0, .bool false, .bool false]], []⟩ 8 (by kernel_rfl) (by kernel_rfl) (by kernel_rfl) (by kernel_rfl)) ?_
  intro W base args ds gs before hval0 hW _ _
  have hval : ∀ (j : Nat) t v, Try.f4.params[j]? = some t → args[j]? = some v → Value.okWide Try.prog W .any base t v := hval0
  have hW' := hW
  obtain ⟨p, q, hA0, hV, rfl, _, _⟩ := hW
  have hA : DataW.TrodAll enc Try.prog W 0 (fun _ => true) true Try.f4.params.toList args.toList ds p := hA0
  rw [Try.params4] at hA hval
  obtain ⟨v0, vs0, d0, ds0, p0, q0, hargs, rfl, rfl, h0, r0⟩ := trodAll_cons hA
  obtain ⟨v1, vs1, d1, ds1, p1, q1, rfl, rfl, rfl, h1, r1⟩ := trodAll_cons r0
  obtain ⟨v2, vs2, d2, ds2, p2, q2, rfl, rfl, rfl, h2, r2⟩ := trodAll_cons r1
  obtain ⟨v3, vs3, d3, ds3, p3, q3, rfl, rfl, rfl, h3, r3⟩ := trodAll_cons r2
  obtain ⟨v4, vs4, d4, ds4, p4, q4, rfl, rfl, rfl, h4, r4⟩ := trodAll_cons r3
  obtain ⟨v5, vs5, d5, ds5, p5, q5, rfl, rfl, rfl, h5, r5⟩ := trodAll_cons r4
  obtain ⟨rfl, rfl, rfl⟩ := trodAll_nil r5
  obtain rfl : args = #[v0, v1, v2, v3, v4, v5] := by cases args; simp_all
  obtain ⟨n, sv, ts, rfl, _, hwf, hI, _⟩ := dlaw.open_dbm (hval 0 24 v0 rfl rfl) h0
  obtain ⟨m, tv, us, rfl, _, hwf', hJ, _⟩ := dlaw.open_dbm (hval 1 24 v1 rfl rfl) h1
  obtain ⟨i, rfl, rfl, rfl, _⟩ := open_int Try.underlying3 (hval 2 3 v2 rfl rfl) h2
  obtain ⟨j, rfl, rfl, rfl, _⟩ := open_int Try.underlying3 (hval 3 3 v3 rfl rfl) h3
  obtain ⟨x, rfl, rfl, rfl, hx⟩ := open_int Try.underlying26 (hval 4 26 v4 rfl rfl) h4
  obtain ⟨lo, ls, hi, hs, op, rfl⟩ := open_span (hval 5 33 v5 rfl rfl) h5
  refine (walk n m i j x lo hi ls hs op sv tv ts us W hI hJ (fun z hz => law.wf_lo (hwf z hz)) (fun z hz => law.wf_lo (hwf' z hz)) (fun z hz => law.wf_hi (hwf z hz)) (fun z hz => law.wf_hi (hwf' z hz)) (law.wf_lo hx) (law.wf_hi hx)).mono fun e W' ⟨he, hB⟩ => ?_
  subst he
  exact ⟨_, rfl, law.post_true law.laidOut (by kernel_rfl) rfl Try.underlying4 rfl hW' (fun h => by subst h; rfl) hB⟩

theorem proved : Rows.TightTellsSaid :=
  OpenClaim.holds_of_wide 4 Try.f4 rfl rfl rfl rfl rfl rfl rfl ⟨rfl, rfl, rfl, rfl, rfl⟩ rfl rfl rfl rfl rfl (by kernel_rfl) Try.func4 (by kernel_rfl)
    (of_decide_eq_true (by kernel_rfl)) (by unfold Func.isWrapper; first | (rw [if_pos (by decide +kernel)]; kernel_rfl) | (rw [if_neg (by decide +kernel)]; exact ⟨rfl, rfl⟩))
    (fun os started H enc _ => lifted os started H enc)
#print axioms proved
end Go.Proofs.Ytallgbpijndmeaa.tightTells
