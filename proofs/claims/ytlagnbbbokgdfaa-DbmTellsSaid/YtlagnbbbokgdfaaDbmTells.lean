/-
  DbmTells answers true for every matrix and times; no condition.
-/
import Derived.Test.YtlagnbbbokgdfaaDbmTells1
import Derived.OpenShut
import Derived.BigQuiet
namespace Go.Proofs.Ytlagnbbbokgdfaa.dbmTells
open Go.ChangeShapes Go.WideShapes Go.ChangeAt Go.RowKit num dbm dref rat dlaw
open bound hiding up
set_option linter.unusedVariables false
set_option linter.unusedSimpArgs false

set_option maxRecDepth 100000 in
set_option maxHeartbeats 1000000 in
theorem walk_far (n : Int) (sv tv : Value) (ts : List Int) (rs : List (Int × Int)) (w : World) (hI : law.Ints w.heap.size w sv ts) (hR : Rats w.heap.size w tv rs) (h : 1000 < ts.length ∨ (ts.length ≤ 1000 ∧ 100 < rs.length)) : Calls Try.prog 4 #[.agg #[.int .i64 n, sv], tv] w fun e w' => e = .returned (.bool true) ∧ Below w.heap.size w w' := by
  obtain ⟨a, cap, rfl⟩ := ints_len hI
  obtain ⟨a', cap', rfl⟩ := rats_len hR
  clear hI hR
  have K1 : Below w.heap.size w (w.alloc (.cells #[.int .i64 n, .slice a ts.length cap] 27)) := (Below.refl _ w).alloc (Nat.le_refl _) _
  rcases h with h | ⟨h, h2⟩
  · have t1 : (1000 : Int) < ts.length := by omega
    go_enter Try.func4, Try.ntmps4
    go_wp2_with fail
    go_ret
    exact ⟨rfl, K1⟩
  · have t1 : ¬ (1000 : Int) < ts.length := by omega
    have t2 : (100 : Int) < rs.length := by omega
    go_enter Try.func4, Try.ntmps4
    go_wp2_with fail
    go_ret
    exact ⟨rfl, K1⟩

/-- what lies there from the copy on: the matrix and its copy, of that Bo the box, own's block below it. -/
def St (n : Int) (ts : List Int) (sv v5 : Value) (B5 : Nat) (w W : World) : Prop :=
  lies.Lies W w.heap.size 27 #[.int .i64 n, sv] ∧ lies.Lies W B5 27 #[.int .i64 n, v5] ∧ law.Ints B5 W v5 ts ∧ law.Ints w.heap.size W sv ts ∧ Below w.heap.size w W
theorem St.below {n : Int} {ts : List Int} {sv v5 : Value} {B5 : Nat} {w W X : World} (h : St n ts sv v5 B5 w W) (k : Below W.heap.size W X) : St n ts sv v5 B5 w X := by
  have h5 := lies.lt h.2.1
  have h6 := h.2.2.2.2.size
  exact ⟨lies.on_call h.1 k, lies.on_call h.2.1 k, h.2.2.1.below (k.mono (by omega)), h.2.2.2.1.below (k.mono h6), h.2.2.2.2.trans (k.mono h6)⟩
theorem St.put {n : Int} {ts : List Int} {sv v5 : Value} {B5 : Nat} {w W : World} (h : St n ts sv v5 B5 w W) (hw : w.heap.size < B5) {q : Nat} (hq : B5 < q) (i : Nat) (u : Value) : St n ts sv v5 B5 w (W.setCell ⟨q, i, none⟩ u) :=
  ⟨lies.on_far h.1 i (by omega) u, lies.on_far h.2.1 i (by omega) u, h.2.2.1.below ((Below.refl B5 W).setCell (p := ⟨q, i, none⟩) (Nat.le_of_lt hq) u), h.2.2.2.1.below ((Below.refl w.heap.size W).setCell (p := ⟨q, i, none⟩) (show w.heap.size ≤ q by omega) u), h.2.2.2.2.setCell (p := ⟨q, i, none⟩) (show w.heap.size ≤ q by omega) u⟩

theorem own_call {W X : World} {B len : Nat} {v : Value} {xs : List Value} (h : W.ownsRow B 29 1 v len xs) (k : Below W.heap.size W X) : X.ownsRow B 29 1 v len xs :=
  h.kept (row := none) ⟨k.os, k.tape, k.output, k.size, fun i hi _ => k.block i hi⟩ (by cases v.ownBlock <;> simp)
theorem Blk.put {n₀ : Nat} {W : World} {aa : Option Addr} {la ca : Nat} {us : List Int} (h : Blk n₀ W aa la ca us) {q : Nat} (hq : ∀ g, aa = some ⟨g, 0, none⟩ → g ≠ q) (i : Nat) (u : Value) : Blk n₀ (W.setCell ⟨q, i, none⟩ u) aa la ca us := by
  rcases h with h | ⟨g, hg, h1, h2, h⟩
  · exact .inl h
  · exact .inr ⟨g, hg, h1, h2, lies.on_far h i (hq g h1) u⟩
theorem Blk.lt {n₀ : Nat} {W : World} {aa : Option Addr} {la ca : Nat} {us : List Int} (h : Blk n₀ W aa la ca us) (g : Nat) (e : aa = some ⟨g, 0, none⟩) : g < W.heap.size := by
  rcases h with ⟨rfl, _⟩ | ⟨g', hg, rfl, h2, h⟩
  · cases e
  · cases e; exact lies.lt h
theorem Blk.set {n₀ : Nat} {W : World} {g la ca : Nat} {us : List Int} (hg : n₀ ≤ g) (hl : la = us.length) (h : lies.Lies W g 29 (cellsOf us)) (p : Nat) (z : Int) : Blk n₀ (W.setCell ⟨g, p, none⟩ (.int .i64 z)) (some ⟨g, 0, none⟩) la ca (us.set p z) := by
  refine .inr ⟨g, hg, rfl, by rw [List.length_set]; exact hl, ?_⟩
  have := lies.on_put h p (.int .i64 z)
  rwa [cells_set] at this
theorem step (w : World) (o : Obj) : Below w.heap.size w (w.alloc o) := (Below.refl _ w).alloc (Nat.le_refl _) _

set_option maxRecDepth 100000 in
set_option maxHeartbeats 8000000 in
theorem walk_in (n : Int) (sv tv : Value) (ts : List Int) (rs : List (Int × Int)) (w : World) (hI : law.Ints w.heap.size w sv ts) (hlo : Low ts) (htop : Tops ts) (hR : Rats w.heap.size w tv rs) (hi : IntsR rs) (h1 : ts.length ≤ 1000) (h2 : rs.length ≤ 100) : Calls Try.prog 4 #[.agg #[.int .i64 n, sv], tv] w fun e w' => e = .returned (.bool true) ∧ Below w.heap.size w w' := by
  have hI0 := hI
  obtain ⟨ad, cap, rfl⟩ := ints_len hI
  obtain ⟨a', cap', rfl⟩ := rats_len hR
  have t1 : ¬ (1000 : Int) < ts.length := by omega
  have t2 : ¬ (100 : Int) < rs.length := by omega
  have DB : Below w.heap.size w (w.alloc (.cells #[.int .i64 n, .slice ad ts.length cap] 27)) := (Below.refl _ w).alloc (Nat.le_refl _) _
  have D0 := lies.made w 27 #[.int .i64 n, .slice ad ts.length cap]
  have HI := Lib.hid hI0
  have HT := Lib.hid htop
  have HLO := Lib.hid hlo
  have HR := Lib.hid hR
  have HII := Lib.hid hi
  clear hI hI0 htop hlo hR hi
  go_enter Try.func4, Try.ntmps4
  go_wp2_with fail
  refine (twin_ref n _ ts _ ((HI.out.below DB).mono DB.size) (by omega)).mono ?_
  rintro e w1 ⟨hB1, v5, rfl, hO⟩
  have hI5 := ints_own hO
  obtain ⟨a5, c5, rfl⟩ := ints_len hI5
  have S1 : St n ts (.slice ad ts.length cap) (.slice a5 ts.length c5) w1.heap.size w (w1.alloc (.cells #[.int .i64 n, .slice a5 ts.length c5] 27)) := by
    have K1 := DB.trans (hB1.mono DB.size)
    exact ⟨lies.on_alloc (lies.on_call D0 hB1) _, lies.made _ _ _, hI5.below ((Below.refl w1.heap.size w1).alloc (Nat.le_refl _) _), HI.out.below (K1.alloc K1.size _), K1.alloc K1.size _⟩
  have hw5 : w.heap.size < w1.heap.size := lies.lt (lies.on_call D0 hB1)
  have hO5 := hO.alloc (.cells #[.int .i64 n, .slice a5 ts.length c5] 27)
  generalize (w.alloc (.cells #[.int .i64 n, .slice ad ts.length cap] 27)).heap.size = base at hO hO5
  clear hI5 hB1 DB D0 hO
  go_wp2_with fail
  generalize hB5 : w1.heap.size = B5 at S1 hw5 ⊢
  generalize w1.alloc (.cells #[.int .i64 n, .slice a5 ts.length c5] 27) = w2 at S1 hO5 ⊢
  clear hB5
  have h52 : B5 < w2.heap.size := lies.lt S1.2.1
  refine (close_g n _ ts _ (S1.2.2.1.mono (Nat.le_of_lt h52)) (by omega) HT.out).mono ?_
  rintro e w3 ⟨hB3, na, aa, la, ca, us, f, rfl, hA, KA⟩
  have S3 := S1.below hB3
  have O3 := own_call hO5 hB3
  have hus : us.length ≤ 1000 := Nat.le_trans hA.len h1
  have HA := Lib.hid hA
  have h2le := hB3.size
  replace S3 := S3.below (step w3 (.cells #[.int .i64 na, .slice aa la ca] 27))
  replace O3 := own_call O3 (step w3 (.cells #[.int .i64 na, .slice aa la ca] 27))
  replace KA := KA.below (step w3 (.cells #[.int .i64 na, .slice aa la ca] 27))
  have LA := lies.made w3 27 #[.int .i64 na, .slice aa la ca]
  clear S1 hO5 hB3 hA
  obtain ⟨x0, x1, x2, x3, x4⟩ := lies.two S3.1
  go_wp2_with fail
  clear x0 x1 x2 x3 x4
  generalize hB6 : w3.heap.size = B6 at LA h2le ⊢
  generalize w3.alloc (.cells #[.int .i64 na, .slice aa la ca] 27) = w4 at S3 O3 KA LA ⊢
  clear hB6
  refine (rclose_g n _ ts _ (S3.2.2.2.1.mono S3.2.2.2.2.size) (by omega) HLO.out HT.out).mono ?_
  rintro e w5 ⟨hB5, nb, ab, lb, cb, vs, fb, rfl, hA2, IB⟩
  obtain ⟨rfl, rfl, rfl⟩ := HA.out.one hA2
  have S5 := (S3.below hB5).below (step w5 (.cells #[.int .i64 nb, .slice ab lb cb] 27))
  have O5 := own_call (own_call O3 hB5) (step w5 (.cells #[.int .i64 nb, .slice ab lb cb] 27))
  have KA5 := (KA.below hB5).below (step w5 (.cells #[.int .i64 nb, .slice ab lb cb] 27))
  have LA5 := lies.on_alloc (lies.on_call LA hB5) (.cells #[.int .i64 nb, .slice ab lb cb] 27)
  have LB5 := lies.made w5 27 #[.int .i64 nb, .slice ab lb cb]
  have IB5 := (IB.below (step w5 (.cells #[.int .i64 nb, .slice ab lb cb] 27))).mono (step w5 (.cells #[.int .i64 nb, .slice ab lb cb] 27)).size
  clear S3 O3 KA LA hB5 hA2 IB
  obtain ⟨x0, x1, x2, x3, x4⟩ := lies.two S5.2.1
  go_wp2_with fail
  clear x0 x1 x2 x3 x4
  generalize hB8 : w5.heap.size = B8 at LB5 ⊢
  generalize w5.alloc (.cells #[.int .i64 nb, .slice ab lb cb] 27) = w6 at S5 O5 KA5 LA5 LB5 IB5 ⊢
  clear hB8
  refine (dkeeps_any n _ _ ts rs _ (S5.2.2.1.mono (Nat.le_of_lt (lies.lt S5.2.1))) (by omega) HT.out ((HR.out.below S5.2.2.2.2).mono S5.2.2.2.2.size) HII.out (by omega)).mono ?_
  rintro e w7 ⟨hB7, r, c, rfl, hc⟩
  have HC := Lib.hid hc
  have S7 := S5.below hB7
  have O7 := own_call O5 hB7
  have KA7 := KA5.below hB7
  have LA7 := lies.on_call LA5 hB7
  have LB7 := lies.on_call LB5 hB7
  have IB7 := (IB5.below hB7).mono hB7.size
  clear S5 O5 KA5 LA5 LB5 IB5 hB7 hc
  obtain ⟨x0, x1, x2, x3, x4⟩ := lies.two S7.1
  go_wp2_with fail
  clear x0 x1 x2 x3 x4
  refine (dref.keeps_any n _ _ ts rs _ (S7.2.2.2.1.mono S7.2.2.2.2.size) (by omega) HLO.out HT.out ((HR.out.below S7.2.2.2.2).mono S7.2.2.2.2.size) HII.out (by omega)).mono ?_
  rintro e w8 ⟨hB8, r', c', rfl, hc'⟩
  obtain ⟨rfl, rfl⟩ := kpd_one HC.out hc'
  have S8 := S7.below hB8
  have O8 := own_call O7 hB8
  have KA8 := KA7.below hB8
  have LA8 := lies.on_call LA7 hB8
  have LB8 := lies.on_call LB7 hB8
  have IB8 := (IB7.below hB8).mono hB8.size
  clear S7 O7 KA7 LA7 LB7 IB7 hB8 hc' HC
  obtain ⟨x0, x1, x2, x3, x4⟩ := lies.two S8.2.1
  go_wp2_with fail
  clear x0 x1 x2 x3 x4
  refine (twin_g n _ ts _ _ O8 (by omega)).mono ?_
  rintro e w9 ⟨hB9, at', lt, ct, rfl, KT⟩
  have h89 := lies.lt LA8
  have h58 := lies.lt S8.2.1
  have hga := KA8.lt
  have S9 := (S8.below hB9).below (step w9 (.cells #[.int .i64 n, .slice at' lt ct] 27))
  have KA9 := (KA8.below hB9).below (step w9 (.cells #[.int .i64 n, .slice at' lt ct] 27))
  have LA9 := lies.on_alloc (lies.on_call LA8 hB9) (.cells #[.int .i64 n, .slice at' lt ct] 27)
  have LB9 := lies.on_alloc (lies.on_call LB8 hB9) (.cells #[.int .i64 n, .slice at' lt ct] 27)
  have LT9 := lies.made w9 27 #[.int .i64 n, .slice at' lt ct]
  have KT9 := KT.below (step w9 (.cells #[.int .i64 n, .slice at' lt ct] 27))
  have IB9 := ((IB8.below hB9).mono hB9.size |>.below (step w9 (.cells #[.int .i64 n, .slice at' lt ct] 27))).mono (step w9 (.cells #[.int .i64 n, .slice at' lt ct] 27)).size
  have h9 := hB9.size
  clear S8 O8 KA8 LA8 LB8 IB8 hB9 KT
  go_wp2_with fail
  generalize hB14 : w9.heap.size = B14 at LT9 h9 ⊢
  generalize w9.alloc (.cells #[.int .i64 n, .slice at' lt ct] 27) = wA at S9 KA9 LA9 LB9 LT9 KT9 IB9 ⊢
  clear hB14
  refine wp_region_held_drew (S := Below wA.heap.size wA) (by kernel_rfl) (dbm.drawn1 (Below.refl _ _)) (fun hHeld => ?_)
  refine wpAnyH_take (i := 0) (v := ?_) rfl (by kernel_rfl) (by kernel_rfl) (by kernel_rfl) (fun _ _ _ h => h) (Or.inl ⟨by rfl, ?_⟩) hHeld ?_
  rotate_left
  · intro w hSw; obtain ⟨s0, s1⟩ := dlaw.at_s LA9 hSw; go_simp; try with_reducible rfl
  try simp only [Act.put, List.getElem_toArray, List.getElem_cons_zero, List.getElem_cons_succ, List.setIfInBounds_toArray, List.set_cons_zero, List.set_cons_succ]
  refine wpAnyH_take (i := 1) (v := ?_) rfl (by kernel_rfl) (by kernel_rfl) (by kernel_rfl) (fun _ _ _ h => h) (Or.inl ⟨by rfl, ?_⟩) hHeld ?_
  rotate_left
  · intro w hSw; obtain ⟨s0, s1⟩ := dlaw.at_s LB9 hSw; go_simp; try with_reducible rfl
  try simp only [Act.put, List.getElem_toArray, List.getElem_cons_zero, List.getElem_cons_succ, List.setIfInBounds_toArray, List.set_cons_zero, List.set_cons_succ]
  refine wpAnyH_ready (rs := [2]) (by kernel_rfl) (by simp) (AllReadyH.cons rfl (fun K hK => ?_) AllReadyH.nil)
  go_simp
  refine (same_true nb _ _ vs vs _ (KA9.below hHeld).ints ((IB9.below hHeld).mono hHeld.size) (by omega) rfl).mono ?_
  rintro e W ⟨rfl, hW⟩
  refine hK.out _ _ (hHeld.trans (hW.mono hHeld.size)) (fun hNew => ?_)
  clear hW
  clear hHeld hK K
  have hHeld := hNew
  clear hNew
  try simp only [Act.put, List.getElem_toArray, List.getElem_cons_zero, List.getElem_cons_succ, List.setIfInBounds_toArray, List.set_cons_zero, List.set_cons_succ]
  refine wpAnyH_take (i := 3) (v := ?_) rfl (by kernel_rfl) (by kernel_rfl) (by kernel_rfl) (fun _ _ _ h => h) (Or.inl ⟨by rfl, ?_⟩) hHeld ?_
  rotate_left
  · intro w hSw; skip; go_simp; try with_reducible rfl
  try simp only [Act.put, List.getElem_toArray, List.getElem_cons_zero, List.getElem_cons_succ, List.setIfInBounds_toArray, List.set_cons_zero, List.set_cons_succ]
  refine wpAnyH_take (i := 4) (v := ?_) rfl (by kernel_rfl) (by kernel_rfl) (by kernel_rfl) (fun _ _ _ h => h) (Or.inl ⟨by rfl, ?_⟩) hHeld ?_
  rotate_left
  · intro w hSw; skip; go_simp; try with_reducible rfl
  try simp only [Act.put, List.getElem_toArray, List.getElem_cons_zero, List.getElem_cons_succ, List.setIfInBounds_toArray, List.set_cons_zero, List.set_cons_succ]
  refine wpAnyH_take (i := 5) (v := ?_) rfl (by kernel_rfl) (by kernel_rfl) (by kernel_rfl) (fun _ _ _ h => h) (Or.inl ⟨by rfl, ?_⟩) hHeld ?_
  rotate_left
  · intro w hSw; skip; go_simp; try with_reducible rfl
  try simp only [Act.put, List.getElem_toArray, List.getElem_cons_zero, List.getElem_cons_succ, List.setIfInBounds_toArray, List.set_cons_zero, List.set_cons_succ]
  refine wpAnyH_take (i := 6) (v := ?_) rfl (by kernel_rfl) (by kernel_rfl) (by kernel_rfl) (fun _ _ _ h => h) (Or.inl ⟨by rfl, ?_⟩) hHeld ?_
  rotate_left
  · intro w hSw; skip; go_simp; try with_reducible rfl
  try simp only [Act.put, List.getElem_toArray, List.getElem_cons_zero, List.getElem_cons_succ, List.setIfInBounds_toArray, List.set_cons_zero, List.set_cons_succ]
  refine wpAnyH_take (i := 7) (v := ?_) rfl (by kernel_rfl) (by kernel_rfl) (by kernel_rfl) (fun _ _ _ h => h) (Or.inl ⟨by rfl, ?_⟩) hHeld ?_
  rotate_left
  · intro w hSw; skip; go_simp; try with_reducible rfl
  try simp only [Act.put, List.getElem_toArray, List.getElem_cons_zero, List.getElem_cons_succ, List.setIfInBounds_toArray, List.set_cons_zero, List.set_cons_succ]
  refine wpAnyH_take (i := 8) (v := ?_) rfl (by kernel_rfl) (by kernel_rfl) (by kernel_rfl) (fun _ _ _ h => h) (Or.inl ⟨by rfl, ?_⟩) hHeld ?_
  rotate_left
  · intro w hSw; skip; go_simp; try with_reducible rfl
  try simp only [Act.put, List.getElem_toArray, List.getElem_cons_zero, List.getElem_cons_succ, List.setIfInBounds_toArray, List.set_cons_zero, List.set_cons_succ]
  refine wpAnyH_take (i := 9) (v := ?_) rfl (by kernel_rfl) (by kernel_rfl) (by kernel_rfl) (fun _ _ _ h => h) (Or.inl ⟨by rfl, ?_⟩) hHeld ?_
  rotate_left
  · intro w hSw; skip; go_simp; try with_reducible rfl
  try simp only [Act.put, List.getElem_toArray, List.getElem_cons_zero, List.getElem_cons_succ, List.setIfInBounds_toArray, List.set_cons_zero, List.set_cons_succ]
  refine wpAnyH_take (i := 10) (v := ?_) rfl (by kernel_rfl) (by kernel_rfl) (by kernel_rfl) (fun _ _ _ h => h) (Or.inl ⟨by rfl, ?_⟩) hHeld ?_
  rotate_left
  · intro w hSw; skip; go_simp; try with_reducible rfl
  try simp only [Act.put, List.getElem_toArray, List.getElem_cons_zero, List.getElem_cons_succ, List.setIfInBounds_toArray, List.set_cons_zero, List.set_cons_succ]
  refine wpAnyH_take (i := 11) (v := ?_) rfl (by kernel_rfl) (by kernel_rfl) (by kernel_rfl) (fun _ _ _ h => h) (Or.inl ⟨by rfl, ?_⟩) hHeld ?_
  rotate_left
  · intro w hSw; skip; go_simp; try with_reducible rfl
  try simp only [Act.put, List.getElem_toArray, List.getElem_cons_zero, List.getElem_cons_succ, List.setIfInBounds_toArray, List.set_cons_zero, List.set_cons_succ]
  refine wpAnyH_take (i := 12) (v := ?_) rfl (by kernel_rfl) (by kernel_rfl) (by kernel_rfl) (fun _ _ _ h => h) (Or.inl ⟨by rfl, ?_⟩) hHeld ?_
  rotate_left
  · intro w hSw; skip; go_simp; try with_reducible rfl
  try simp only [Act.put, List.getElem_toArray, List.getElem_cons_zero, List.getElem_cons_succ, List.setIfInBounds_toArray, List.set_cons_zero, List.set_cons_succ]
  refine wpAnyH_take (i := 13) (v := ?_) rfl (by kernel_rfl) (by kernel_rfl) (by kernel_rfl) (fun _ _ _ h => h) (Or.inl ⟨by rfl, ?_⟩) hHeld ?_
  rotate_left
  · intro w hSw; skip; go_simp; try with_reducible rfl
  try simp only [Act.put, List.getElem_toArray, List.getElem_cons_zero, List.getElem_cons_succ, List.setIfInBounds_toArray, List.set_cons_zero, List.set_cons_succ]
  refine wpAnyH_take (i := 14) (v := ?_) rfl (by kernel_rfl) (by kernel_rfl) (by kernel_rfl) (fun _ _ _ h => h) (Or.inl ⟨by rfl, ?_⟩) hHeld ?_
  rotate_left
  · intro w hSw; skip; go_simp; try with_reducible rfl
  try simp only [Act.put, List.getElem_toArray, List.getElem_cons_zero, List.getElem_cons_succ, List.setIfInBounds_toArray, List.set_cons_zero, List.set_cons_succ]
  refine wpAnyH_take (i := 15) (v := ?_) rfl (by kernel_rfl) (by kernel_rfl) (by kernel_rfl) (fun _ _ _ h => h) (Or.inl ⟨by rfl, ?_⟩) hHeld ?_
  rotate_left
  · intro w hSw; skip; go_simp; try with_reducible rfl
  try simp only [Act.put, List.getElem_toArray, List.getElem_cons_zero, List.getElem_cons_succ, List.setIfInBounds_toArray, List.set_cons_zero, List.set_cons_succ]
  refine wpAnyH_take (i := 16) (v := ?_) rfl (by kernel_rfl) (by kernel_rfl) (by kernel_rfl) (fun _ _ _ h => h) (Or.inl ⟨by rfl, ?_⟩) hHeld ?_
  rotate_left
  · intro w hSw; skip; go_simp; try with_reducible rfl
  try simp only [Act.put, List.getElem_toArray, List.getElem_cons_zero, List.getElem_cons_succ, List.setIfInBounds_toArray, List.set_cons_zero, List.set_cons_succ]
  refine wpAnyH_take (i := 17) (v := ?_) rfl (by kernel_rfl) (by kernel_rfl) (by kernel_rfl) (fun _ _ _ h => h) (Or.inl ⟨by rfl, ?_⟩) hHeld ?_
  rotate_left
  · intro w hSw; skip; go_simp; try with_reducible rfl
  try simp only [Act.put, List.getElem_toArray, List.getElem_cons_zero, List.getElem_cons_succ, List.setIfInBounds_toArray, List.set_cons_zero, List.set_cons_succ]
  refine wpAnyH_take (i := 18) (v := ?_) rfl (by kernel_rfl) (by kernel_rfl) (by kernel_rfl) (fun _ _ _ h => h) (Or.inl ⟨by rfl, ?_⟩) hHeld ?_
  rotate_left
  · intro w hSw; skip; go_simp; try with_reducible rfl
  try simp only [Act.put, List.getElem_toArray, List.getElem_cons_zero, List.getElem_cons_succ, List.setIfInBounds_toArray, List.set_cons_zero, List.set_cons_succ]
  refine wpAnyH_take (i := 19) (v := ?_) rfl (by kernel_rfl) (by kernel_rfl) (by kernel_rfl) (fun _ _ _ h => h) (Or.inl ⟨by rfl, ?_⟩) hHeld ?_
  rotate_left
  · intro w hSw; obtain ⟨s0, s1⟩ := dlaw.at_s S9.2.1 hSw; go_simp; try with_reducible rfl
  try simp only [Act.put, List.getElem_toArray, List.getElem_cons_zero, List.getElem_cons_succ, List.setIfInBounds_toArray, List.set_cons_zero, List.set_cons_succ]
  refine wpAnyH_take (i := 21) (v := ?_) rfl (by kernel_rfl) (by kernel_rfl) (by kernel_rfl) (fun _ _ _ h => h) (Or.inl ⟨by rfl, ?_⟩) hHeld ?_
  rotate_left
  · intro w hSw; obtain ⟨s0, s1⟩ := dlaw.at_s S9.1 hSw; go_simp; try with_reducible rfl
  try simp only [Act.put, List.getElem_toArray, List.getElem_cons_zero, List.getElem_cons_succ, List.setIfInBounds_toArray, List.set_cons_zero, List.set_cons_succ]
  refine wpAnyH_ready (rs := [20]) (by kernel_rfl) (by simp) (AllReadyH.cons rfl (fun K hK => ?_) AllReadyH.nil)
  go_simp
  refine (check4_any n _ ts _ (((S9.2.2.1.mono (Nat.le_of_lt (lies.lt S9.2.1))).below hHeld).mono hHeld.size) (by omega) HT.out).mono ?_
  rintro e W ⟨rfl, hW⟩
  refine hK.out _ _ (hHeld.trans (hW.mono hHeld.size)) (fun hNew => ?_)
  clear hW
  clear hHeld hK K
  have hHeld := hNew
  clear hNew
  try simp only [Act.put, List.getElem_toArray, List.getElem_cons_zero, List.getElem_cons_succ, List.setIfInBounds_toArray, List.set_cons_zero, List.set_cons_succ]
  refine wpAnyH_ready (rs := [22]) (by kernel_rfl) (by simp) (AllReadyH.cons rfl (fun K hK => ?_) AllReadyH.nil)
  go_simp
  refine (dref.check_any n _ ts _ (((S9.2.2.2.1.mono S9.2.2.2.2.size).below hHeld).mono hHeld.size) (by omega) HLO.out HT.out).mono ?_
  rintro e W ⟨rfl, hW⟩
  refine hK.out _ _ (hHeld.trans (hW.mono hHeld.size)) (fun hNew => ?_)
  clear hW
  clear hHeld hK K
  have hHeld := hNew
  clear hNew
  try simp only [Act.put, List.getElem_toArray, List.getElem_cons_zero, List.getElem_cons_succ, List.setIfInBounds_toArray, List.set_cons_zero, List.set_cons_succ]
  refine wpAnyH_take (i := 23) (v := ?_) rfl (by kernel_rfl) (by kernel_rfl) (by kernel_rfl) (fun _ _ _ h => h) (Or.inl ⟨by rfl, ?_⟩) hHeld ?_
  rotate_left
  · intro w hSw; skip; go_simp; try with_reducible rfl
  try simp only [Act.put, List.getElem_toArray, List.getElem_cons_zero, List.getElem_cons_succ, List.setIfInBounds_toArray, List.set_cons_zero, List.set_cons_succ]
  refine wpAnyH_take (i := 24) (v := ?_) rfl (by kernel_rfl) (by kernel_rfl) (by kernel_rfl) (fun _ _ _ h => h) (Or.inl ⟨by rfl, ?_⟩) hHeld ?_
  rotate_left
  · intro w hSw; skip; go_simp; try with_reducible rfl
  try simp only [Act.put, List.getElem_toArray, List.getElem_cons_zero, List.getElem_cons_succ, List.setIfInBounds_toArray, List.set_cons_zero, List.set_cons_succ]
  refine wpAnyH_take (i := 25) (v := ?_) rfl (by kernel_rfl) (by kernel_rfl) (by kernel_rfl) (fun _ _ _ h => h) (Or.inl ⟨by rfl, ?_⟩) hHeld ?_
  rotate_left
  · intro w hSw; skip; go_simp; try with_reducible rfl
  try simp only [Act.put, List.getElem_toArray, List.getElem_cons_zero, List.getElem_cons_succ, List.setIfInBounds_toArray, List.set_cons_zero, List.set_cons_succ]
  refine wpAnyH_take (i := 26) (v := ?_) rfl (by kernel_rfl) (by kernel_rfl) (by kernel_rfl) (fun _ _ _ h => h) (Or.inl ⟨by rfl, ?_⟩) hHeld ?_
  rotate_left
  · intro w hSw; obtain ⟨s0, s1⟩ := dlaw.at_s LT9 hSw; go_simp; try with_reducible rfl
  try simp only [Act.put, List.getElem_toArray, List.getElem_cons_zero, List.getElem_cons_succ, List.setIfInBounds_toArray, List.set_cons_zero, List.set_cons_succ]
  refine wpAnyH_take (i := 27) (v := ?_) rfl (by kernel_rfl) (by kernel_rfl) (by kernel_rfl) (fun _ _ _ h => h) (Or.inl ⟨by rfl, ?_⟩) hHeld ?_
  rotate_left
  · intro w hSw; obtain ⟨s0, s1⟩ := dlaw.at_s S9.1 hSw; go_simp; try with_reducible rfl
  try simp only [Act.put, List.getElem_toArray, List.getElem_cons_zero, List.getElem_cons_succ, List.setIfInBounds_toArray, List.set_cons_zero, List.set_cons_succ]
  refine wpAnyH_ready (rs := [28]) (by kernel_rfl) (by simp) (AllReadyH.cons rfl (fun K hK => ?_) AllReadyH.nil)
  go_simp
  refine (same_true n _ _ ts ts _ (KT9.below hHeld).ints (((S9.2.2.2.1.mono S9.2.2.2.2.size).below hHeld).mono hHeld.size) (by omega) rfl).mono ?_
  rintro e W ⟨rfl, hW⟩
  refine hK.out _ _ (hHeld.trans (hW.mono hHeld.size)) (fun hNew => ?_)
  clear hW
  clear hHeld hK K
  have hHeld := hNew
  clear hNew
  try simp only [Act.put, List.getElem_toArray, List.getElem_cons_zero, List.getElem_cons_succ, List.setIfInBounds_toArray, List.set_cons_zero, List.set_cons_succ]
  refine wpAnyH_take (i := 29) (v := ?_) rfl (by kernel_rfl) (by kernel_rfl) (by kernel_rfl) (fun _ _ _ h => h) (Or.inl ⟨by rfl, ?_⟩) hHeld ?_
  rotate_left
  · intro w hSw; skip; go_simp; try with_reducible rfl
  try simp only [Act.put, List.getElem_toArray, List.getElem_cons_zero, List.getElem_cons_succ, List.setIfInBounds_toArray, List.set_cons_zero, List.set_cons_succ]
  refine wpAnyH_take (i := 30) (v := ?_) rfl (by kernel_rfl) (by kernel_rfl) (by kernel_rfl) (fun _ _ _ h => h) (Or.inl ⟨by rfl, ?_⟩) hHeld ?_
  rotate_left
  · intro w hSw; skip; go_simp; try with_reducible rfl
  try simp only [Act.put, List.getElem_toArray, List.getElem_cons_zero, List.getElem_cons_succ, List.setIfInBounds_toArray, List.set_cons_zero, List.set_cons_succ]
  refine wpAnyH_take (i := 31) (v := ?_) rfl (by kernel_rfl) (by kernel_rfl) (by kernel_rfl) (fun _ _ _ h => h) (Or.inl ⟨by rfl, ?_⟩) hHeld ?_
  rotate_left
  · intro w hSw; obtain ⟨s0, s1⟩ := dlaw.at_s S9.2.1 hSw; go_simp; try with_reducible rfl
  try simp only [Act.put, List.getElem_toArray, List.getElem_cons_zero, List.getElem_cons_succ, List.setIfInBounds_toArray, List.set_cons_zero, List.set_cons_succ]
  refine wpAnyH_take (i := 32) (v := ?_) rfl (by kernel_rfl) (by kernel_rfl) (by kernel_rfl) (fun _ _ _ h => h) (Or.inl ⟨by rfl, ?_⟩) hHeld ?_
  rotate_left
  · intro w hSw; obtain ⟨s0, s1⟩ := dlaw.at_s LA9 hSw; go_simp; try with_reducible rfl
  try simp only [Act.put, List.getElem_toArray, List.getElem_cons_zero, List.getElem_cons_succ, List.setIfInBounds_toArray, List.set_cons_zero, List.set_cons_succ]
  refine wpAnyH_take (i := 34) (v := ?_) rfl (by kernel_rfl) (by kernel_rfl) (by kernel_rfl) (fun _ _ _ h => h) (Or.inl ⟨by rfl, ?_⟩) hHeld ?_
  rotate_left
  · intro w hSw; obtain ⟨s0, s1⟩ := dlaw.at_s S9.1 hSw; go_simp; try with_reducible rfl
  try simp only [Act.put, List.getElem_toArray, List.getElem_cons_zero, List.getElem_cons_succ, List.setIfInBounds_toArray, List.set_cons_zero, List.set_cons_succ]
  refine wpAnyH_take (i := 35) (v := ?_) rfl (by kernel_rfl) (by kernel_rfl) (by kernel_rfl) (fun _ _ _ h => h) (Or.inl ⟨by rfl, ?_⟩) hHeld ?_
  rotate_left
  · intro w hSw; obtain ⟨s0, s1⟩ := dlaw.at_s LA9 hSw; go_simp; try with_reducible rfl
  try simp only [Act.put, List.getElem_toArray, List.getElem_cons_zero, List.getElem_cons_succ, List.setIfInBounds_toArray, List.set_cons_zero, List.set_cons_succ]
  refine wpAnyH_ready (rs := [33]) (by kernel_rfl) (by simp) (AllReadyH.cons rfl (fun K hK => ?_) AllReadyH.nil)
  go_simp
  refine (same4_any n nb _ _ ts vs _ (((S9.2.2.1.mono (Nat.le_of_lt (lies.lt S9.2.1))).below hHeld).mono hHeld.size) (KA9.below hHeld).ints (by omega)).mono ?_
  rintro e W ⟨rfl, hW⟩
  refine hK.out _ _ (hHeld.trans (hW.mono hHeld.size)) (fun hNew => ?_)
  clear hW
  clear hHeld hK K
  have hHeld := hNew
  clear hNew
  try simp only [Act.put, List.getElem_toArray, List.getElem_cons_zero, List.getElem_cons_succ, List.setIfInBounds_toArray, List.set_cons_zero, List.set_cons_succ]
  refine wpAnyH_ready (rs := [36]) (by kernel_rfl) (by simp) (AllReadyH.cons rfl (fun K hK => ?_) AllReadyH.nil)
  go_simp
  refine (same_any n nb _ _ ts vs _ (((S9.2.2.2.1.mono S9.2.2.2.2.size).below hHeld).mono hHeld.size) (KA9.below hHeld).ints (by omega)).mono ?_
  rintro e W ⟨rfl, hW⟩
  refine hK.out _ _ (hHeld.trans (hW.mono hHeld.size)) (fun hNew => ?_)
  clear hW
  clear hHeld hK K
  have hHeld := hNew
  clear hNew
  try simp only [Act.put, List.getElem_toArray, List.getElem_cons_zero, List.getElem_cons_succ, List.setIfInBounds_toArray, List.set_cons_zero, List.set_cons_succ]
  refine wpAnyH_take (i := 37) (v := ?_) rfl (by kernel_rfl) (by kernel_rfl) (by kernel_rfl) (fun _ _ _ h => h) (Or.inl ⟨by rfl, ?_⟩) hHeld ?_
  rotate_left
  · intro w hSw; skip; go_simp; try with_reducible rfl
  try simp only [Act.put, List.getElem_toArray, List.getElem_cons_zero, List.getElem_cons_succ, List.setIfInBounds_toArray, List.set_cons_zero, List.set_cons_succ]
  refine wpAnyH_take (i := 38) (v := ?_) rfl (by kernel_rfl) (by kernel_rfl) (by kernel_rfl) (fun _ _ _ h => h) (Or.inl ⟨by rfl, ?_⟩) hHeld ?_
  rotate_left
  · intro w hSw; skip; go_simp; try with_reducible rfl
  try simp only [Act.put, List.getElem_toArray, List.getElem_cons_zero, List.getElem_cons_succ, List.setIfInBounds_toArray, List.set_cons_zero, List.set_cons_succ]
  refine wpAnyH_take (i := 39) (v := ?_) rfl (by kernel_rfl) (by kernel_rfl) (by kernel_rfl) (fun _ _ _ h => h) (Or.inl ⟨by rfl, ?_⟩) hHeld ?_
  rotate_left
  · intro w hSw; skip; go_simp; try with_reducible rfl
  try simp only [Act.put, List.getElem_toArray, List.getElem_cons_zero, List.getElem_cons_succ, List.setIfInBounds_toArray, List.set_cons_zero, List.set_cons_succ]
  refine wpAnyH_done (by kernel_rfl) ?_ _
  have SW := S9.below hHeld
  have KTW := KT9.below hHeld
  have KAW := KA9.below hHeld
  have LAW := lies.on_call LA9 hHeld
  have LTW := lies.on_call LT9 hHeld
  have HGA := Lib.hid hga
  have hlt : lt = ts.length := by
    rcases KTW with ⟨_, h, _, h'⟩ | ⟨g, _, _, h, _⟩
    · rw [h, h']; rfl
    · exact h
  have hla : la = vs.length := by
    rcases KAW with ⟨_, h, _, h'⟩ | ⟨g, _, _, h, _⟩
    · rw [h, h']; rfl
    · exact h
  have hlm : lt ≤ 1000 := by omega
  have ham : la ≤ 1000 := by omega
  generalize w8.heap.size = N8 at KTW h89 h58 HGA h9
  generalize w2.heap.size = N2 at KAW h52 h2le
  clear hHeld S9 KT9 KA9 LA9 LT9 LB9 IB9 hga hlt hla h9 h2le
  obtain ⟨x0, x1, x2, x3, x4⟩ := lies.two LTW
  go_wp2_with fail
  clear x0 x1 x2 x3 x4
  go_loopw [16] (fun i wr => ∃ p : Nat, p ≤ lt ∧ i = .int .i64 p ∧ St n ts (.slice ad ts.length cap) (.slice a5 ts.length c5) B5 w wr ∧ lies.Lies wr B14 27 #[.int .i64 n, .slice at' lt ct] ∧ lies.Lies wr B6 27 #[.int .i64 nb, .slice aa la ca] ∧ Blk N2 wr aa la ca vs ∧ ∃ xs, Blk N8 wr at' lt ct xs) (fun i _ => lt - (intOf i).toNat)
  case atStart => exact ⟨0, Nat.zero_le _, rfl, SW, LTW, LAW, KAW, ts, KTW⟩
  case round =>
    clear SW LTW LAW KAW KTW
    obtain ⟨p, hp, rfl, SW, LTW, LAW, KAW, xs, KTW⟩ := hrel
    obtain ⟨x0, x1, x2, x3, x4⟩ := lies.two LTW
    by_cases hpl : p < lt
    · rcases KTW with ⟨_, rfl, _⟩ | ⟨g, hg, rfl, hxl, hG⟩
      · omega
      · have hc := (lies.cell hG p).trans (cells_at xs p (by omega))
        have hf := lies.free hG p
        have hs := lies.lt hG
        have z1 : (0 : Int) ≤ p := by omega
        have z2 : (p : Int) < lt := by omega
        obtain ⟨z, hz⟩ : ∃ z, wrap64 (xs[p]?.getD 0 + 1) = z := ⟨_, rfl⟩
        have hz' : IntKind.i64.wrap (xs[p]?.getD 0 + 1) = z := by rw [IntKind.wrap_i64, ← hz]; unfold wrap64; rfl
        generalize xs[p]?.getD 0 = x at hc hz hz'
        have R := Lib.hid (And.intro (SW.put hw5 (q := g) (by omega) p (.int .i64 z)) (And.intro (lies.on_far LTW p (fun e => ne_type hG LTW (by decide) e.symm) (.int .i64 z)) (And.intro (lies.on_far LAW p (fun e => ne_type hG LAW (by decide) e.symm) (.int .i64 z)) (And.intro (KAW.put (q := g) (fun g' e => by have := HGA.out g' e; omega) p (.int .i64 z)) (Blk.set (ca := ct) hg hxl hG p z)))))
        clear SW LTW LAW KAW hG
        go_wp2_with fail
        clear hz hz' hc hf hs x0 x1 x2 x3 x4
        go_roundw
        case rel => exact ⟨p + 1, by omega, by go_num, R.out.1, R.out.2.1, R.out.2.2.1, R.out.2.2.2.1, _, R.out.2.2.2.2⟩
        case measure => simp [intOf]; omega
    · obtain rfl : lt = p := by omega
      obtain ⟨y0, y1, y2, y3, y4⟩ := lies.two LAW
      go_wp2_with fail
      clear x0 x1 x2 x3 x4 y0 y1 y2 y3 y4
      obtain ⟨wo, rfl⟩ : ∃ wo : World, wo = wr := ⟨_, rfl⟩
      go_loopw [17] (fun i wr => ∃ p : Nat, p ≤ la ∧ i = .int .i64 p ∧ St n ts (.slice ad ts.length cap) (.slice a5 ts.length c5) B5 w wr ∧ lies.Lies wr B6 27 #[.int .i64 nb, .slice aa la ca] ∧ ∃ xs, Blk N2 wr aa la ca xs) (fun i _ => la - (intOf i).toNat)
      case atStart => exact ⟨0, Nat.zero_le _, rfl, SW, LAW, vs, KAW⟩
      case round =>
        clear SW LTW LAW KAW KTW
        obtain ⟨p, hp, rfl, SW, LAW, xs, KAW⟩ := hrel
        obtain ⟨x0, x1, x2, x3, x4⟩ := lies.two LAW
        by_cases hpl : p < la
        · rcases KAW with ⟨_, rfl, _⟩ | ⟨g, hg, rfl, hxl, hG⟩
          · omega
          · have hc := (lies.cell hG p).trans (cells_at xs p (by omega))
            have hf := lies.free hG p
            have hs := lies.lt hG
            have z1 : (0 : Int) ≤ p := by omega
            have z2 : (p : Int) < la := by omega
            obtain ⟨z, hz⟩ : ∃ z, wrap64 (xs[p]?.getD 0 + 1) = z := ⟨_, rfl⟩
            have hz' : IntKind.i64.wrap (xs[p]?.getD 0 + 1) = z := by rw [IntKind.wrap_i64, ← hz]; unfold wrap64; rfl
            generalize xs[p]?.getD 0 = x at hc hz hz'
            have R := Lib.hid (And.intro (SW.put hw5 (q := g) (by omega) p (.int .i64 z)) (And.intro (lies.on_far LAW p (fun e => ne_type hG LAW (by decide) e.symm) (.int .i64 z)) (Blk.set (ca := ca) hg hxl hG p z)))
            clear SW LAW hG
            go_wp2_with fail
            clear hz hz' hc hf hs x0 x1 x2 x3 x4
            go_roundw
            case rel => exact ⟨p + 1, by omega, by go_num, R.out.1, R.out.2.1, _, R.out.2.2⟩
            case measure => simp [intOf]; omega
        · obtain rfl : la = p := by omega
          obtain ⟨y0, y1, y2, y3, y4⟩ := lies.two SW.1
          obtain ⟨z0, z1, z2, z3, z4⟩ := lies.two SW.2.1
          go_wp2_with fail
          refine (same_true n _ _ ts ts _ (SW.2.2.1.mono (Nat.le_of_lt (lies.lt SW.2.1))) (SW.2.2.2.1.mono SW.2.2.2.2.size) (by omega) rfl).mono ?_
          rintro e wz ⟨rfl, hBz⟩
          have K := SW.2.2.2.2.trans (hBz.mono SW.2.2.2.2.size)
          clear SW LAW KAW hBz x0 x1 x2 x3 x4 y0 y1 y2 y3 y4 z0 z1 z2 z3 z4
          go_wp2_with fail
          go_ret
          exact ⟨rfl, K⟩

theorem walk (n : Int) (sv tv : Value) (ts : List Int) (rs : List (Int × Int)) (w : World) (hI : law.Ints w.heap.size w sv ts) (hlo : Low ts) (htop : Tops ts) (hR : Rats w.heap.size w tv rs) (hi : IntsR rs) : Calls Try.prog 4 #[.agg #[.int .i64 n, sv], tv] w fun e w' => e = .returned (.bool true) ∧ Below w.heap.size w w' := by
  by_cases h1 : 1000 < ts.length ∨ (ts.length ≤ 1000 ∧ 100 < rs.length)
  · exact walk_far n sv tv ts rs w hI hR h1
  · exact walk_in n sv tv ts rs w hI hlo htop hR hi (by omega) (by omega)

set_option maxRecDepth 100000 in
theorem lifted (os : Os) (started : os.Started) (H : Type) (enc : TypeId × Value → H) :
    ReturnsInHanded {} Try.checked os 4 .any (Rows.dbmTellsSpec.pre6 enc Try.prog Try.f4 Rows.dbmTellsRow.domain false) (Rows.dbmTellsSpec.post enc Try.prog Try.f4 false true false false) := by
  refine returnsInHanded_of_change (C := Try.checked) law.own started (by kernel_rfl) Try.func4
    (ChangeSpec.witness6 (enc := enc) (C := Try.checked) false ⟨#[], #[.agg #[.int .i64 0, .slice none 0 0], .slice none 0 0], []⟩ 8 (by kernel_rfl) (by kernel_rfl) (by kernel_rfl) (by kernel_rfl)) ?_
  intro W base args ds gs before hval0 hW _ _
  have hval : ∀ (j : Nat) t v, Try.f4.params[j]? = some t → args[j]? = some v → Value.okWide Try.prog W .any base t v := hval0
  have hW' := hW
  obtain ⟨p, q, hA0, hV, rfl, _, _⟩ := hW
  have hA : DataW.TrodAll enc Try.prog W 0 (fun _ => true) true Try.f4.params.toList args.toList ds p := hA0
  rw [Try.params4] at hA hval
  obtain ⟨v0, vs0, d0, ds0, p0, q0, hargs, rfl, rfl, h0, r0⟩ := trodAll_cons hA
  obtain ⟨v1, vs1, d1, ds1, p1, q1, rfl, rfl, rfl, h1, r1⟩ := trodAll_cons r0
  obtain ⟨rfl, rfl, rfl⟩ := trodAll_nil r1
  obtain rfl : args = #[v0, v1] := by cases args; simp_all
  obtain ⟨n, sv, ts, rfl, _, hwf, hI, _⟩ := open_dbm (hval 0 27 v0 rfl rfl) h0
  obtain ⟨rs, hi, hR, _⟩ := open_rats (hval 1 32 v1 rfl rfl) h1
  refine (walk n sv v1 ts rs W hI (fun z hz => law.wf_lo (hwf z hz)) (fun z hz => law.wf_hi (hwf z hz)) hR hi).mono fun e W' ⟨he, hB⟩ => ?_
  subst he
  exact ⟨_, rfl, law.post_true law.laidOut (by kernel_rfl) rfl Try.underlying4 rfl hW' (fun h => by subst h; rfl) hB⟩

theorem proved : Rows.DbmTellsSaid :=
  OpenClaim.holds_of_wide 4 Try.f4 rfl rfl rfl rfl rfl rfl rfl ⟨rfl, rfl, rfl, rfl, rfl⟩ rfl rfl rfl rfl rfl (by kernel_rfl) Try.func4 (by kernel_rfl)
    (of_decide_eq_true (by kernel_rfl)) (by unfold Func.isWrapper; first | (rw [if_pos (by decide +kernel)]; kernel_rfl) | (rw [if_neg (by decide +kernel)]; exact ⟨rfl, rfl⟩))
    (fun os started H enc _ => lifted os started H enc)
#print axioms proved
end Go.Proofs.Ytlagnbbbokgdfaa.dbmTells
