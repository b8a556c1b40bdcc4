/-
  What num.Sum answers for every slice of ints (the nil one too): the sum, or the error, as the sums of the first ones go; nothing that lay in memory has turned. Condition: the slice holds fewer than 2^44 ints.
-/
import Derived.Test.YtcnfdffdnenmdaaNumSum
import Derived.Test.YtcnfdffdnenmdaaLaw
namespace Go.Proofs.Ytcnfdffdnenmdaa.num
open Go.RowKit Go.Shelf law
attribute [local go_sem] Oper.semAt_some
set_option linter.unusedVariables false

set_option maxRecDepth 100000 in
set_option maxHeartbeats 1000000 in
theorem sums1_nil_in (F : Fence) (n : Nat) (h24 : F.fn 24) (hro : F.round = none) (l Bs : Nat) (a : Option Addr) (cap : Nat) (J : List (Int × Int) → World → Prop) (W : World) (hBs : W.cell? ⟨Bs, 0, none⟩ = some (.slice a 0 cap)) (h0 : J [] W) :
    CallsIn F n Try.prog 24 #[.func (.yield l) #[] #[], .pointer (some ⟨Bs, 0, none⟩)] W fun e W' => (∃ v, e = .returned v) ∧ J [] W' := by
  refine callsIn_of_wp Try.func24 rfl h24 ?_ hro
  simp only [Try.ntmps24, List.size_toArray, List.length_cons, List.length_nil, Nat.reduceAdd, Nat.reduceSub, Array.replicate_succ, Array.replicate_zero, List.push_toArray, List.append_toArray, List.nil_append, List.cons_append]
  gi_wp2
  gi_loopw [3, 9] (fun s i wr => i = .int .i64 0 ∧ J [] wr) (fun _ _ _ => 0)
  case atStart => exact ⟨rfl, h0⟩
  case round =>
    obtain ⟨rfl, hJs⟩ := hrel
    gi_wp2
    go_end0
    exact ⟨⟨_, rfl⟩, hJs⟩

set_option maxHeartbeats 1000000 in
theorem sums_in (F : Fence) (n : Nat) (h22 : F.fn 22) (hro : F.round = none) (a : Option Addr) (len cap : Nat) (w : World) :
    CallsIn F n Try.prog 22 #[.slice a len cap] w fun e w' => e = .returned (.func (.func 24) #[] #[.pointer (some ⟨w.heap.size, 0, none⟩)]) ∧ w' = w.alloc (.cells #[.slice a len cap] 34) := by
  refine callsIn_of_wp Try.func22 rfl h22 ?_ hro
  simp only [Try.ntmps22, List.size_toArray, List.length_cons, List.length_nil, Nat.reduceAdd, Nat.reduceSub, Array.replicate_succ, Array.replicate_zero, List.push_toArray, List.append_toArray, List.nil_append, List.cons_append]
  gi_wp2
  go_ret
  exact ⟨rfl, rfl⟩

theorem sums_stops (F : Fence) (n : Nat) (h24 : F.fn 24) (h13 : F.fn 13) (hA : AddIn F) (hro : F.round = none) (hn : 1 ≤ n) (Bs n₀ : Nat) (sv : Value) (zs : List Int) (hreach : zs.length * 8 ≤ 140737488351232) (w : World) (hBs : Bs < w.heap.size) (hn₀ : n₀ ≤ w.heap.size)
    (hc : w.cell? ⟨Bs, 0, none⟩ = some sv) (hI : Ints n₀ w sv zs) :
    SeqStopsK F n Try.prog 24 #[.pointer (some ⟨Bs, 0, none⟩)] encs (Below n₀) (fun ys => ∃ k, k ≤ zs.length ∧ ys = upto (pr zs) k ∧ (k = zs.length ∨ ∃ j, j < k ∧ EE zs j ≠ 0))
      (fun pre => ∃ k, k ≤ zs.length ∧ pre = upto (pr zs) k) zs.length w := fun l J Jx W hW _ _ hY h0 => by
  have hc' := (hW.cell (p := ⟨Bs, 0, none⟩) hBs).trans hc
  rcases hI.below (hW.mono hn₀) with ⟨⟨a, cap, rfl, _⟩, rfl⟩ | ⟨b, off, cap, rfl, hb, hcs⟩
  · exact (sums1_nil_in F n h24 hro l Bs a cap J W hc' h0).mono fun e W' ⟨he, hj⟩ => ⟨he, .inl ⟨_, ⟨0, Nat.le_refl _, rfl, .inl rfl⟩, hj⟩⟩
  · exact sums1_in F n h24 h13 hA hro hn l Bs n₀ b off zs.length cap zs hreach hb J Jx hY W hc' hcs h0

/-- the last sum that came. -/
def lastV (pre : List (Int × Int)) : Int := (pre.getLast?.map (·.1)).getD 0
theorem lastV_snoc (pre : List (Int × Int)) (x : Int × Int) : lastV (pre ++ [x]) = x.1 := by simp [lastV]
def lastE (pre : List (Int × Int)) : Int := (pre.getLast?.map (·.2)).getD 0
theorem lastE_snoc (pre : List (Int × Int)) (x : Int × Int) : lastE (pre ++ [x]) = x.2 := by simp [lastE]
theorem lastE_upto (zs : List Int) (k : Nat) : lastE (upto (pr zs) (k + 1)) = EE zs k := by rw [upto_succ, lastE_snoc]; rfl
theorem lastV_upto (zs : List Int) (k : Nat) : lastV (upto (pr zs) k) = SS zs k := by
  cases k with
  | zero => rfl
  | succ k => rw [upto_succ, lastV_snoc]; rfl
theorem good_of (zs : List Int) (k : Nat) (h : ∀ p ∈ upto (pr zs) k, p.2 = 0) : ∀ j, j < k → EE zs j = 0 :=
  fun j hj => h (pr zs j) (by simp only [upto, List.mem_map, List.mem_range]; exact ⟨j, hj, rfl⟩)

set_option maxRecDepth 100000 in
set_option maxHeartbeats 2000000 in
theorem sum_in (F : Fence) (n : Nat) (h9 : F.fn 9) (h22 : F.fn 22) (h24 : F.fn 24) (h13 : F.fn 13) (hA : AddIn F) (hro : F.round = none) (hn : 3 ≤ n) (a : Option Addr) (len cap : Nat) (zs : List Int) (hreach : zs.length * 8 ≤ 140737488351232) (w : World) (hI : Ints w.heap.size w (.slice a len cap) zs) :
    CallsIn F n Try.prog 9 #[.slice a len cap] w fun e W' => e = .returned (.tuple #[.int .i64 (sumV zs), .int .i64 (sumE zs)]) ∧ Below w.heap.size w W' := by
  have h1 : 1 ≤ n := by omega
  have HA := Lib.hid hA
  clear hA
  refine callsIn_of_wp_marks Try.func9 rfl h9 ?_ hro
  simp only [Try.ntmps9, List.size_toArray, List.length_cons, List.length_nil, Nat.reduceAdd, Nat.reduceSub, Array.replicate_succ, Array.replicate_zero, List.push_toArray, List.append_toArray, List.nil_append, List.cons_append]
  gi_wp2_with (gi_at_call 22; refine (sums_in F (n - 1) h22 hro _ _ _ _).mono ?_; rintro e w' ⟨rfl, rfl⟩)
  have b0 := Boxed.new w 3 (.int .i64 0)
  have b1 := Boxed.new (w.alloc (.cells #[.int .i64 0] 3)) 22 (.int .i64 0)
  have b2 := Boxed.new ((w.alloc (.cells #[.int .i64 0] 3)).alloc (.cells #[.int .i64 0] 22)) 3 (.int .i64 0)
  have b3 := Boxed.new (((w.alloc (.cells #[.int .i64 0] 3)).alloc (.cells #[.int .i64 0] 22)).alloc (.cells #[.int .i64 0] 3)) 34 (.slice a len cap)
  simp only [World.size_alloc] at b1 b2 b3
  have hB0 : Below w.heap.size w ((((w.alloc (.cells #[.int .i64 0] 3)).alloc (.cells #[.int .i64 0] 22)).alloc (.cells #[.int .i64 0] 3)).alloc (.cells #[.slice a len cap] 34)) := ((((Below.refl _ w).alloc (Nat.le_refl _) _).alloc (by simp) _).alloc (by simp; omega) _).alloc (by simp; omega) _
  refine wpIn_rangeFunc_ownG hro h1 (gf := 24) (lb := #[.pointer (some ⟨w.heap.size + 1 + 1 + 1, 0, none⟩)]) rfl h24 (enters_of Try.func24 (by kernel_rfl) rfl)
    (sums_stops F (n - 1) h24 h13 HA.out hro (by omega) (w.heap.size + 1 + 1 + 1) w.heap.size _ zs hreach _ (by simp) (by simp; omega) b3.cell (hI.below hB0)) belowK_t (belowK_b (by simp; omega)) (Below.refl _ _) (fun _ => rfl)
    (fun pre W => ((∀ p ∈ pre, p.2 = 0) ∧ Boxed W w.heap.size 3 (.int .i64 0) ∧ Boxed W (w.heap.size + 1) 22 (.int .i64 0) ∧ Boxed W (w.heap.size + 1 + 1) 3 (.int .i64 (lastV pre))) ∧ Below w.heap.size w W)
    (fun c pre W => ((c = .ret ∧ ∃ ini last, pre = ini ++ [last] ∧ (∀ p ∈ ini, p.2 = 0) ∧ last.2 ≠ 0) ∧ Boxed W w.heap.size 3 (.int .i64 0) ∧ Boxed W (w.heap.size + 1) 22 (.int .i64 (lastE pre))) ∧ Below w.heap.size w W)
    (OwnFrom.and (OwnFrom.and (ownFrom_pure _ _) (OwnFrom.and (Own.from (boxed_own _ _ _) _) (OwnFrom.and (Own.from (boxed_own _ _ _) _) (Own.from (boxed_own _ _ (fun pre => .int .i64 (lastV pre))) _)))) (ownFrom_below (Nat.le_refl _) (by simp; omega)))
    (fun c => OwnFrom.and (OwnFrom.and (ownFrom_pure _ _) (OwnFrom.and (Own.from (boxed_own _ _ _) _) (Own.from (boxed_own _ _ (fun pre => .int .i64 (lastE pre))) _))) (ownFrom_below (Nat.le_refl _) (by simp; omega)))
    ⟨⟨by simp, ((b0.alloc _).alloc _).alloc _, (b1.alloc _).alloc _, b2.alloc _⟩, hB0⟩
    (fun x => { tmps := #[.slice a len cap, undef, .pointer (some ⟨w.heap.size, 0, none⟩), .pointer (some ⟨w.heap.size + 1, 0, none⟩), .pointer (some ⟨w.heap.size + 1 + 1, 0, none⟩), .int .i64 x.1, .int .i64 x.2, .slice a len cap, .func (.func 24) #[] #[.pointer (some ⟨w.heap.size + 1 + 1 + 1, 0, none⟩)], .int .i64 x.1, .int .i64 x.2, undef, undef, undef, undef, undef], defers := [] }) ?assign ?body ?done ?stop
  case assign =>
    intro l x W K hK
    gi_wp2
    exact hK
  case body =>
    rintro l pre x W ⟨⟨hp, c0, c1, c2⟩, hB⟩ _
    have HP := Lib.hid hp
    clear hp
    have k0 := c0.cell
    have k1 := c1.cell
    have k2 := c2.cell
    have f0 := c0.frozen
    have f1 := c1.frozen
    have f2 := c2.frozen
    gi_wp2
    · have hx : x.2 ≠ 0 := by simpa using (show (x.2 != 0) = true by assumption)
      refine ⟨((KeepsOthers.setCell _ _ _).trans (KeepsOthers.setCell _ _ _)).from _, ⟨⟨rfl, pre, x, rfl, HP.out, hx⟩, (c0.set _).other (by omega) _, ?_⟩, (hB.setCell (p := ⟨w.heap.size, 0, none⟩) (Nat.le_refl _) _).setCell (p := ⟨w.heap.size + 1, 0, none⟩) (by simp) _⟩
      rw [lastE_snoc]; exact (c1.other (by omega) _).set _
    · have hx : x.2 = 0 := by simpa using (show (x.2 != 0) = false by assumption)
      refine ⟨(KeepsOthers.setCell _ _ _).from _, (Below.refl w.heap.size W).setCell (p := ⟨w.heap.size + 1 + 1, 0, none⟩) (by simp; omega) _, ⟨fun p hp => (List.mem_append.1 hp).elim (HP.out p) (fun e => by simp at e; subst e; exact hx), c0.other (by omega) _, c1.other (by omega) _, ?_⟩, hB.setCell (p := ⟨w.heap.size + 1 + 1, 0, none⟩) (by simp; omega) _⟩
      rw [lastV_snoc]; exact c2.set _
  case done =>
    rintro D ys W hD ⟨k, hk, rfl, hor⟩ ⟨⟨hp, c0, c1, c2⟩, hB⟩ hK
    have k0 := c0.cell
    have k1 := c1.cell
    have k2 := c2.cell
    have f0 := c0.frozen
    have f1 := c1.frozen
    have f2 := c2.frozen
    have hg := good_of zs k hp
    have hkl : k = zs.length := hor.elim id (fun ⟨j, hj, hne⟩ => (hne (hg j hj)).elim)
    have hgood : Good zs := fun j hj => hg j (by omega)
    have hv : lastV (upto (pr zs) k) = sumV zs := by unfold sumV; rw [if_pos hgood, lastV_upto, hkl]
    have hz : sumE zs = 0 := by unfold sumE; rw [if_pos hgood]
    rw [hv] at k2 c2
    have HZ := Lib.hid hz
    clear hv hp hor hg hkl hz hgood
    gi_wp2
    have hK' := ((KeepsOthers.setCell W ⟨w.heap.size, 0, none⟩ (.int .i64 (sumV zs))).trans (KeepsOthers.setCell _ ⟨w.heap.size + 1, 0, none⟩ (.int .i64 0))).same D _ hK rfl
    refine ⟨by simp, .inl ⟨_, _, rfl, run_takeDeferred hK', ?_⟩⟩
    have d0 := ((c0.set (.int .i64 (sumV zs))).other (B' := w.heap.size + 1) (by omega) (.int .i64 0))
    have d1 := ((c1.other (B' := w.heap.size) (by omega) (.int .i64 (sumV zs))).set (.int .i64 0))
    have e0 := cell_kept d0.cell (grownBy_putObj' _ D (.deferred none)) (fun r e => by cases e; exact ⟨_, hK', rfl⟩)
    have e1 := cell_kept d1.cell (grownBy_putObj' _ D (.deferred none)) (fun r e => by cases e; exact ⟨_, hK', rfl⟩)
    refine ⟨.tuple #[.int .i64 (sumV zs), .int .i64 0], ?_, by rw [HZ.out], ((hB.setCell (p := ⟨w.heap.size, 0, none⟩) (Nat.le_refl _) _).setCell (p := ⟨w.heap.size + 1, 0, none⟩) (by simp) _).trans (belowK_b (w := w) (Nat.le_refl _) _ D _ _ (by simp at hD; omega) hK' rfl rfl)⟩
    simp [results, Try.f9, go_sem, e0, e1]
  case stop =>
    rintro D c pre W hD ⟨k, hk, rfl⟩ ⟨⟨⟨rfl, ini, last, e1, e2, e3⟩, c0, c1⟩, hB⟩ hK
    obtain ⟨k', rfl⟩ : ∃ k', k = k' + 1 := by
      cases k with
      | zero => simp [upto] at e1
      | succ k' => exact ⟨k', rfl⟩
    rw [lastE_upto] at c1
    rw [upto_succ] at e1
    obtain ⟨rfl, e5⟩ := List.append_inj' e1 rfl
    obtain rfl : pr zs k' = last := by simpa using e5
    have hbad : ¬ Good zs := fun h => e3 (h k' (by omega))
    have h10 : EE zs k' = 10 := (EE_two zs k').elim (fun h => (e3 h).elim) id
    have hv : sumV zs = 0 := by unfold sumV; rw [if_neg hbad]
    have hz : sumE zs = 10 := by unfold sumE; rw [if_neg hbad]
    rw [h10] at c1
    have HZ := Lib.hid hz
    have HV := Lib.hid hv
    clear hv hz hbad h10 e1 e2 e3 e5
    gi_wp2
    refine ⟨by simp, .inl ⟨_, _, rfl, run_takeDeferred hK, ?_⟩⟩
    have e0 := cell_kept c0.cell (grownBy_putObj' _ D (.deferred none)) (fun r e => by cases e; exact ⟨_, hK, rfl⟩)
    have e1 := cell_kept c1.cell (grownBy_putObj' _ D (.deferred none)) (fun r e => by cases e; exact ⟨_, hK, rfl⟩)
    refine ⟨.tuple #[.int .i64 0, .int .i64 10], ?_, by rw [HZ.out, HV.out], hB.trans (belowK_b (w := w) (Nat.le_refl _) W D _ _ (by simp at hD; omega) hK rfl rfl)⟩
    simp [results, Try.f9, go_sem, e0, e1]

/-- num.Sum, in any world, of a slice that reads as zs. -/
theorem sum_any (a : Option Addr) (len cap : Nat) (zs : List Int) (hreach : zs.length * 8 ≤ 140737488351232) (w : World) (hI : Ints w.heap.size w (.slice a len cap) zs) :
    Calls Try.prog 9 #[.slice a len cap] w fun e W' => e = .returned (.tuple #[.int .i64 (sumV zs), .int .i64 (sumE zs)]) ∧ Below w.heap.size w W' :=
  callsIn_wide.1 (sum_in Fence.wide 3 trivial trivial trivial trivial (fun n a b w => callsIn_wide.2 (add_any a b w)) rfl (Nat.le_refl _) a len cap zs hreach w hI)
end Go.Proofs.Ytcnfdffdnenmdaa.num
