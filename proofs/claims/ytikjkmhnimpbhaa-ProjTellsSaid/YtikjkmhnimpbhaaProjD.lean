/-
  What the document's own Drop, Grow and Move answer; each theorem names its conditions.
-/
import Derived.Test.YtikjkmhnimpbhaaProjC
import Derived.Test.YtikjkmhnimpbhaaInclB
import Derived.Test.YtikjkmhnimpbhaaTightC
namespace Go.Proofs.Ytikjkmhnimpbhaa.pref
open Go.ChangeShapes Go.WideShapes Go.ChangeAt Go.RowKit num rat dbm dref Go.Proofs.Ytikjkmhnimpbhaa.tight Go.Proofs.Ytikjkmhnimpbhaa.proj
open bound hiding up
set_option linter.unusedVariables false
set_option linter.unusedSimpArgs false

/-- the first places of a matrix without a clock. -/
def wiT (n k : Nat) (us : List Int) (q : Nat) : List Int := (List.range q).filterMap fun p => if p / n ≠ k ∧ p % n ≠ k then some (us[p]?.getD 0) else none
theorem wiT_yes {n k : Nat} (us : List Int) {q : Nat} (h : q / n ≠ k ∧ q % n ≠ k) : wiT n k us (q + 1) = wiT n k us q ++ [us[q]?.getD 0] := by
  unfold wiT
  rw [List.range_succ, List.filterMap_append]
  simp [h.1, h.2]
theorem wiT_no {n k : Nat} (us : List Int) {q : Nat} (h : ¬ (q / n ≠ k ∧ q % n ≠ k)) : wiT n k us (q + 1) = wiT n k us q := by
  unfold wiT
  rw [List.range_succ, List.filterMap_append]
  have : List.filterMap (fun p => if p / n ≠ k ∧ p % n ≠ k then some (us[p]?.getD 0) else none) [q] = [] := by
    rw [List.filterMap_cons, if_neg h]; rfl
  rw [this, List.append_nil]
theorem wiT_len (n k : Nat) (us : List Int) (q : Nat) : (wiT n k us q).length ≤ q := by
  unfold wiT
  exact Nat.le_trans (List.length_filterMap_le _ _) (by simp)
theorem wiT_all {n k : Nat} (us : List Int) (hn : n ≤ 4) (h1 : 1 ≤ k) (hk : k < n) : wiT n k us (n * n) = laidT n (n - 1) (sk k) us := by
  have : (n = 2 ∧ k = 1) ∨ (n = 3 ∧ k = 1) ∨ (n = 3 ∧ k = 2) ∨ (n = 4 ∧ k = 1) ∨ (n = 4 ∧ k = 2) ∨ (n = 4 ∧ k = 3) := by omega
  rcases this with ⟨rfl, rfl⟩ | ⟨rfl, rfl⟩ | ⟨rfl, rfl⟩ | ⟨rfl, rfl⟩ | ⟨rfl, rfl⟩ | ⟨rfl, rfl⟩ <;> rfl
/-- the first places of a matrix in an order. -/
def moT (n : Nat) (o : Nat → Nat) (ts : List Int) (q : Nat) : List Int := (List.range q).map fun p => tat ts n (o (p / n)) (o (p % n))
theorem moT_length (n : Nat) (o : Nat → Nat) (ts : List Int) (q : Nat) : (moT n o ts q).length = q := by simp [moT]
theorem moT_up (n : Nat) (o : Nat → Nat) (ts : List Int) (q : Nat) : moT n o ts (q + 1) = moT n o ts q ++ [tat ts n (o (q / n)) (o (q % n))] := by
  unfold moT
  rw [List.range_succ, List.map_append]
  rfl
theorem moT_all {n : Nat} {o : Nat → Nat} (ts : List Int) (h0 : 0 < n) (ho : ∀ i, i < n → o i < n) : moT n o ts (n * n) = moveT n o ts := by
  unfold moT moveT laidT
  refine List.map_congr_left fun p hp => ?_
  have hp := List.mem_range.1 hp
  rw [if_pos ⟨ho _ ((Nat.div_lt_iff_lt_mul h0).2 hp), ho _ (Nat.mod_lt p h0)⟩]
theorem app_room {a : Nat} (h : a < 17) : a + 1 ≤ maxLen ∧ (a + 1) * 8 ≤ 140737488355328 := by
  unfold maxLen
  omega
/-- what lies there while it is written. -/
def OI (n m b off cap len : Nat) (us : List Int) (w W : World) : Prop := ∃ v, lies.Lies W w.heap.size 24 #[.int .i64 n, .slice (some ⟨b, off, none⟩) (n * n) cap] ∧ lies.Lies W (w.heap.size + 1) 24 #[.int .i64 0, .slice none 0 0] ∧ lies.Lies W (w.heap.size + 1 + 1) 24 #[.int .i64 m, v] ∧ W.ownsRow (w.heap.size + 1 + 1 + 1) 29 1 v len (us.map (Value.int .i64)) ∧ Below w.heap.size w W
set_option maxRecDepth 100000 in
set_option maxHeartbeats 8000000 in
theorem without_is (n k b off cap : Nat) (us : List Int) (w : World) (h0 : 0 < n) (hn : n ≤ 4) (h1 : 1 ≤ k) (hk : k < n) (hr : Row w b off us) (hb : b < w.heap.size) (hu : us.length = n * n) :
    Calls Try.prog 32 #[.agg #[.int .i64 n, .slice (some ⟨b, off, none⟩) (n * n) cap], .int .i64 k] w fun e w' => Below w.heap.size w w' ∧ ∃ g cc, e = .returned (.agg #[.int .i64 ((n - 1 : Nat) : Int), .slice (some ⟨g, 0, none⟩) ((n - 1) * (n - 1)) cc]) ∧ Row w' g 0 (laidT n (n - 1) (sk k) us) ∧ g < w'.heap.size ∧ w.heap.size ≤ g := by
  obtain ⟨i0, hi, hz0, hz1, hz2⟩ := info_parts info_b
  have HIN := Lib.hid (And.intro hi (And.intro hz0 (And.intro hz1 hz2)))
  have hsq := sq_le hn
  have hpp : 0 < n * n := Nat.mul_pos h0 h0
  have HR := Lib.hid hr
  have HU := Lib.hid hu
  have z1 : wrap64 ((n : Int) - 1) = ((n - 1 : Nat) : Int) := by rw [IntWalk.wrap64_in _ ⟨by omega, by omega⟩]; omega
  have z2 : IntKind.i64.wrap ((n : Int) - 1) = ((n - 1 : Nat) : Int) := by rw [IntWalk.i64_in _ ⟨by omega, by omega⟩]; omega
  have hm0 : 0 < n - 1 := by omega
  clear hi hz0 hz1 hz2 hr hu
  have E0 := lies.on_alloc (lies.on_alloc (lies.made w 24 #[.int .i64 n, .slice (some ⟨b, off, none⟩) (n * n) cap]) (.cells #[.int .i64 0, .slice none 0 0] 24)) (.cells #[.int .i64 ((n - 1 : Nat) : Int), .slice none 0 0] 24)
  have E1 := lies.on_alloc (lies.made_at (w.alloc (.cells #[.int .i64 n, .slice (some ⟨b, off, none⟩) (n * n) cap] 24)) 24 #[.int .i64 0, .slice none 0 0] (w.heap.size + 1) (World.size_alloc _ _)) (.cells #[.int .i64 ((n - 1 : Nat) : Int), .slice none 0 0] 24)
  have E2 := lies.made_at ((w.alloc (.cells #[.int .i64 n, .slice (some ⟨b, off, none⟩) (n * n) cap] 24)).alloc (.cells #[.int .i64 0, .slice none 0 0] 24)) 24 #[.int .i64 ((n - 1 : Nat) : Int), .slice none 0 0] (w.heap.size + 1 + 1) (by simp)
  have EB := bound.up3 w (.cells #[.int .i64 n, .slice (some ⟨b, off, none⟩) (n * n) cap] 24) (.cells #[.int .i64 0, .slice none 0 0] 24) (.cells #[.int .i64 ((n - 1 : Nat) : Int), .slice none 0 0] 24)
  have I0 : OI n (n - 1) b off cap 0 [] w _ := ⟨_, E0, E1, E2, World.ownsRow_nil _ _ _ _, EB⟩
  clear E0 E1 E2 EB
  go_enter Try.func32, Try.ntmps32
  go_wp2_with fail
  generalize ((w.alloc (.cells #[.int .i64 n, .slice (some ⟨b, off, none⟩) (n * n) cap] 24)).alloc (.cells #[.int .i64 0, .slice none 0 0] 24)).alloc (.cells #[.int .i64 ((n - 1 : Nat) : Int), .slice none 0 0] 24) = w0 at I0 ⊢
  clear z1 z2
  go_loopw [6] (fun iv wr => ∃ i : Nat, i ≤ n ∧ iv = .int .i64 i ∧ OI n (n - 1) b off cap (wiT n k us (i * n)).length (wiT n k us (i * n)) w wr) (fun iv _ => n - (intOf iv).toNat)
  case atStart => exact ⟨0, Nat.zero_le _, rfl, by rw [Nat.zero_mul]; exact I0⟩
  case round =>
    clear I0
    obtain ⟨i, hi, rfl, hA⟩ := hrel
    by_cases hin : i < n
    · obtain ⟨y0, y1, y2, y3, y4⟩ := lies.two hA.choose_spec.1
      go_wp2_with fail
      clear y0 y1 y2 y3 y4
      go_loopw [7] (fun jv wr => ∃ j : Nat, j ≤ n ∧ jv = .int .i64 j ∧ OI n (n - 1) b off cap (wiT n k us (i * n + j)).length (wiT n k us (i * n + j)) w wr) (fun jv _ => n - (intOf jv).toNat)
      case atStart => exact ⟨0, Nat.zero_le _, rfl, hA⟩
      case round =>
        clear hA
        obtain ⟨j, hj, rfl, v, L0', L1', L2', hO, LB'⟩ := hrel
        obtain ⟨y0, y1, y2, y3, y4⟩ := lies.two L0'
        by_cases hjn : j < n
        · have hkj := place_le hn hin hjn
          have e1 : (i * n + j) % n = j := (place_div hjn).2
          have e2 : (i * n + j) / n = i := (place_div hjn).1
          have HLN := Lib.hid (wiT_len n k us (i * n + j))
          by_cases hyn : i ≠ k ∧ j ≠ k
          · have n1 : ¬ (i : Int) = (k : Int) := by have := hyn.1; omega
            have n2 : ¬ (j : Int) = (k : Int) := by have := hyn.2; omega
            have m1 : ((i : Int) != (k : Int)) = true := by simpa using n1
            have m2 : ((j : Int) != (k : Int)) = true := by simpa using n2
            have hup := wiT_yes (n := n) (k := k) us (q := i * n + j) (by rw [e1, e2]; exact hyn)
            clear hyn e1 e2
            have HQ0 : RowKit.Hid ((wiT n k us (i * n + j)).length < 17) := Lib.hid (by have := HLN.out; omega)
            have hz := (HR.out.below LB' hb) (i * n + j) (by rw [HU.out]; exact hkj)
            generalize us[i * n + j]?.getD 0 = z at hz hup
            generalize hus : wiT n k us (i * n + j) = xs at hO hup HLN HQ0
            have HQ := HQ0
            have HUP := Lib.hid hup
            clear hus
            obtain ⟨va, vl, vc, rfl⟩ := tight.own_slice hO
            have hS : ∀ W, lies.Lies W w.heap.size 24 #[.int .i64 n, .slice (some ⟨b, off, none⟩) (n * n) cap] → Below w.heap.size w W → (W.cell? ⟨w.heap.size, 0, none⟩ = some (.int .i64 n) ∧ W.cell? ⟨w.heap.size, 1, none⟩ = some (.slice (some ⟨b, off, none⟩) (n * n) cap)) ∧ W.cell? ⟨b, off + (i * n + j), none⟩ = some (.int .i64 z) := fun W h k => ⟨lies.pair h, (k.cell (p := ⟨b, off + (i * n + j), none⟩) hb).trans ((LB'.cell (p := ⟨b, off + (i * n + j), none⟩) hb).symm.trans hz)⟩
            have HS := Lib.hid hS
            clear hS hup
            go_wp2_with fail
            clear y0 y1 y2 y3 y4 hz
            obtain ⟨q1, q2, q3, q4, q5, q6, q7⟩ := dref.place_int hn hin hjn
            have L0 : lies.Lies wr.drew w.heap.size 24 #[.int .i64 n, .slice (some ⟨b, off, none⟩) (n * n) cap] := L0'
            have L1 : lies.Lies wr.drew (w.heap.size + 1) 24 #[.int .i64 0, .slice none 0 0] := L1'
            have L2 : lies.Lies wr.drew (w.heap.size + 1 + 1) 24 #[.int .i64 ((n - 1 : Nat) : Int), .slice va vl vc] := L2'
            have LB : Below w.heap.size w wr.drew := lies.frame_drew LB'
            have hsz := LB'.size
            have hlt2 := lies.lt L2'
            clear L0' L1' LB'
            refine wp_region_held_drew (S := fun W => (W.cell? ⟨w.heap.size, 0, none⟩ = some (.int .i64 n) ∧ W.cell? ⟨w.heap.size, 1, none⟩ = some (.slice (some ⟨b, off, none⟩) (n * n) cap)) ∧ W.cell? ⟨b, off + (i * n + j), none⟩ = some (.int .i64 z)) (by kernel_rfl) (HS.out _ L0 LB) (fun hHeld => ?_)
            refine wpAnyH_take (i := 0) (v := ?_) rfl (by kernel_rfl) (by kernel_rfl) (by kernel_rfl) (fun _ _ _ h => h) (Or.inl ⟨by rfl, ?_⟩) hHeld ?_
            rotate_left
            · intro w hSw; skip; go_simp; try with_reducible rfl
            try simp only [Act.put, List.getElem_toArray, List.getElem_cons_zero, List.getElem_cons_succ, List.setIfInBounds_toArray, List.set_cons_zero, List.set_cons_succ]
            refine wpAnyH_take (i := 2) (v := ?_) rfl (by kernel_rfl) (by kernel_rfl) (by kernel_rfl) (fun _ _ _ h => h) (Or.inl ⟨by rfl, ?_⟩) hHeld ?_
            rotate_left
            · intro w hSw; obtain ⟨⟨s0, s1⟩, s2⟩ := hSw; go_simp; try with_reducible rfl
            try simp only [Act.put, List.getElem_toArray, List.getElem_cons_zero, List.getElem_cons_succ, List.setIfInBounds_toArray, List.set_cons_zero, List.set_cons_succ]
            refine wpAnyH_take (i := 3) (v := ?_) rfl (by kernel_rfl) (by kernel_rfl) (by kernel_rfl) (fun _ _ _ h => h) (Or.inl ⟨by rfl, ?_⟩) hHeld ?_
            rotate_left
            · intro w hSw; obtain ⟨⟨s0, s1⟩, s2⟩ := hSw; go_simp; try with_reducible rfl
            try simp only [Act.put, List.getElem_toArray, List.getElem_cons_zero, List.getElem_cons_succ, List.setIfInBounds_toArray, List.set_cons_zero, List.set_cons_succ]
            refine wpAnyH_take (i := 4) (v := ?_) rfl (by kernel_rfl) (by kernel_rfl) (by kernel_rfl) (fun _ _ _ h => h) (Or.inl ⟨by rfl, ?_⟩) hHeld ?_
            rotate_left
            · intro w hSw; obtain ⟨⟨s0, s1⟩, s2⟩ := hSw; go_simp; try with_reducible rfl
            try simp only [Act.put, List.getElem_toArray, List.getElem_cons_zero, List.getElem_cons_succ, List.setIfInBounds_toArray, List.set_cons_zero, List.set_cons_succ]
            refine wpAnyH_take (i := 5) (v := ?_) rfl (by kernel_rfl) (by kernel_rfl) (by kernel_rfl) (fun _ _ _ h => h) (Or.inl ⟨by rfl, ?_⟩) hHeld ?_
            rotate_left
            · intro w hSw; obtain ⟨⟨s0, s1⟩, s2⟩ := hSw; go_simp; try with_reducible rfl
            try simp only [Act.put, List.getElem_toArray, List.getElem_cons_zero, List.getElem_cons_succ, List.setIfInBounds_toArray, List.set_cons_zero, List.set_cons_succ]
            refine wpAnyH_take (i := 6) (v := ?_) rfl (by kernel_rfl) (by kernel_rfl) (by kernel_rfl) (fun _ _ _ h => h) (Or.inl ⟨by rfl, ?_⟩) hHeld ?_
            rotate_left
            · intro w hSw; obtain ⟨⟨s0, s1⟩, s2⟩ := hSw; go_simp; try with_reducible rfl
            try simp only [Act.put, List.getElem_toArray, List.getElem_cons_zero, List.getElem_cons_succ, List.setIfInBounds_toArray, List.set_cons_zero, List.set_cons_succ]
            refine wpAnyH_take (i := 7) (v := ?_) rfl (by kernel_rfl) (by kernel_rfl) (by kernel_rfl) (fun _ _ _ h => h) (Or.inl ⟨by rfl, ?_⟩) hHeld ?_
            rotate_left
            · intro w hSw; obtain ⟨⟨s0, s1⟩, s2⟩ := hSw; go_simp; try with_reducible rfl
            try simp only [Act.put, List.getElem_toArray, List.getElem_cons_zero, List.getElem_cons_succ, List.setIfInBounds_toArray, List.set_cons_zero, List.set_cons_succ]
            refine wpAnyH_take (i := 8) (v := ?_) rfl (by kernel_rfl) (by kernel_rfl) (by kernel_rfl) (fun _ _ _ h => h) (Or.inl ⟨by rfl, ?_⟩) hHeld ?_
            rotate_left
            · intro w hSw; obtain ⟨⟨s0, s1⟩, s2⟩ := hSw; go_simp; try with_reducible rfl
            try simp only [Act.put, List.getElem_toArray, List.getElem_cons_zero, List.getElem_cons_succ, List.setIfInBounds_toArray, List.set_cons_zero, List.set_cons_succ]
            refine wpAnyH_take (i := 9) (v := ?_) rfl (by kernel_rfl) (by kernel_rfl) (by kernel_rfl) (fun _ _ _ h => h) (Or.inl ⟨by rfl, ?_⟩) hHeld ?_
            rotate_left
            · intro w hSw; obtain ⟨⟨s0, s1⟩, s2⟩ := hSw; go_simp; try with_reducible rfl
            try simp only [Act.put, List.getElem_toArray, List.getElem_cons_zero, List.getElem_cons_succ, List.setIfInBounds_toArray, List.set_cons_zero, List.set_cons_succ]
            refine wpAnyH_take (i := 10) (v := ?_) rfl (by kernel_rfl) (by kernel_rfl) (by kernel_rfl) (fun _ _ _ h => h) (Or.inl ⟨by rfl, ?_⟩) hHeld ?_
            rotate_left
            · intro w hSw; obtain ⟨⟨s0, s1⟩, s2⟩ := hSw; go_simp; try with_reducible rfl
            try simp only [Act.put, List.getElem_toArray, List.getElem_cons_zero, List.getElem_cons_succ, List.setIfInBounds_toArray, List.set_cons_zero, List.set_cons_succ]
            refine wpAnyH_take (i := 11) (v := ?_) rfl (by kernel_rfl) (by kernel_rfl) (by kernel_rfl) (fun _ _ _ h => h) (Or.inl ⟨by rfl, ?_⟩) hHeld ?_
            rotate_left
            · intro w hSw; obtain ⟨⟨s0, s1⟩, s2⟩ := hSw; go_simp; try with_reducible rfl
            try simp only [Act.put, List.getElem_toArray, List.getElem_cons_zero, List.getElem_cons_succ, List.setIfInBounds_toArray, List.set_cons_zero, List.set_cons_succ]
            clear q1 q2 q3 q4 q5 q6 q7 hkj n1 n2
            refine wpAnyH_ready (rs := [1, 12]) (by kernel_rfl) (by simp) (AllReadyH.cons rfl (fun K hK => ?_) (AllReadyH.cons rfl (fun K hK => ?_) AllReadyH.nil))
            · obtain ⟨x0, x1, x2, x3, x4⟩ := lies.two L2'
              go_simp
              refine hK.out _ _ hHeld (fun hNew => ?_)
              clear x0 x1 x2 x3 x4
              clear hHeld hK K
              have hHeld := hNew
              clear hNew
              try simp only [Act.put, List.getElem_toArray, List.getElem_cons_zero, List.getElem_cons_succ, List.setIfInBounds_toArray, List.set_cons_zero, List.set_cons_succ]
              clear L2'
              refine wpAnyH_ready (rs := [12]) (by kernel_rfl) (by simp) (AllReadyH.cons rfl (fun K hK => ?_) AllReadyH.nil)
              go_simp
              have M7 := lies.made wr.drew 29 #[.int .i64 z]
              have O7 := (World.ownsRow.drew hO).alloc (.cells #[.int .i64 z] 29)
              have P0 := lies.on_alloc L0 (.cells #[.int .i64 z] 29)
              have P1 := lies.on_alloc L1 (.cells #[.int .i64 z] 29)
              have P2 := lies.on_alloc L2 (.cells #[.int .i64 z] 29)
              have PB := lies.frame_up LB (.cells #[.int .i64 z] 29)
              refine hK.out _ _ (HS.out _ P0 PB) (fun hNew => ?_)
              clear hHeld hK K
              have hHeld := hNew
              clear hNew
              try simp only [Act.put, List.getElem_toArray, List.getElem_cons_zero, List.getElem_cons_succ, List.setIfInBounds_toArray, List.set_cons_zero, List.set_cons_succ]
              refine wpAnyH_ready (rs := [13]) (by kernel_rfl) (by simp) (AllReadyH.cons rfl (fun K hK => ?_) AllReadyH.nil)
              rw [if_pos (by rfl)]
              refine wp_append_own _ (.tmp 33) (.tmp 44) 22 rfl (w.heap.size + 1 + 1 + 1) 29 i0 (.int .i64 0) 1 8 Try.underlying22 HIN.out.1 HIN.out.2.1 HIN.out.2.2.1 HIN.out.2.2.2 rfl (by decide) _ _ _ rfl O7 ⟨wr.heap.size, 0, none⟩ 1 1 [.int .i64 z] rfl rfl (cell_one_new _ _ _) (by simp [Value.oneCell']) (app_room HQ.out).1 (app_room HQ.out).2 (by simp; omega) ?_
              intro v' w8 hown' hgrow _
              have hbk : ∀ q, (Value.slice va vl vc).ownBlock = some q → w.heap.size + 1 + 1 + 1 ≤ q := fun q e => (hO.lt q e).1
              have Q0 := (World.grownBy.block hgrow _ (lies.lt P0) (fun e => by have := hbk _ e.symm; omega)).trans P0
              have Q1 := (World.grownBy.block hgrow _ (lies.lt P1) (fun e => by have := hbk _ e.symm; omega)).trans P1
              have Q2 := (World.grownBy.block hgrow _ (lies.lt P2) (fun e => by have := hbk _ e.symm; omega)).trans P2
              have QB := PB.grown hgrow (by simp; omega) (fun q e => by have := hbk q e; omega)
              replace Q0 : lies.Lies w8 w.heap.size 24 #[.int .i64 n, .slice (some ⟨b, off, none⟩) (n * n) cap] := Q0
              replace Q1 : lies.Lies w8 (w.heap.size + 1) 24 #[.int .i64 0, .slice none 0 0] := Q1
              replace Q2 : lies.Lies w8 (w.heap.size + 1 + 1) 24 #[.int .i64 ((n - 1 : Nat) : Int), .slice va vl vc] := Q2
              obtain ⟨wa, wl, wc, rfl⟩ := tight.own_slice hown'
              have HO8 := Lib.hid hown'
              refine hK.out _ _ (HS.out _ Q0 QB) (fun hNew => ?_)
              clear hown' hgrow O7 M7 hO L0 L1 L2 LB P0 P1 P2 PB hbk
              clear hHeld hK K
              have hHeld := hNew
              clear hNew
              try simp only [Act.put, List.getElem_toArray, List.getElem_cons_zero, List.getElem_cons_succ, List.setIfInBounds_toArray, List.set_cons_zero, List.set_cons_succ]
              refine wpAnyH_take (i := 14) (v := ?_) rfl (by kernel_rfl) (by kernel_rfl) (by kernel_rfl) (fun _ _ _ h => h) (Or.inl ⟨by rfl, ?_⟩) hHeld ?_
              rotate_left
              · intro w hSw; skip; go_simp; try with_reducible rfl
              try simp only [Act.put, List.getElem_toArray, List.getElem_cons_zero, List.getElem_cons_succ, List.setIfInBounds_toArray, List.set_cons_zero, List.set_cons_succ]
              obtain ⟨x0, x1, x2, x3, x4⟩ := lies.two Q2
              refine wpAnyH_ready (rs := [15]) (by kernel_rfl) (by simp) (AllReadyH.cons rfl (fun K hK => ?_) AllReadyH.nil)
              go_simp
              have R0 := lies.on_far Q0 (b := w.heap.size + 1 + 1) 1 (by omega) (.slice wa wl wc)
              have R1 := lies.on_far Q1 (b := w.heap.size + 1 + 1) 1 (by omega) (.slice wa wl wc)
              have R2 := lies.on_put Q2 1 (.slice wa wl wc)
              have RB := QB.setCell (p := ⟨w.heap.size + 1 + 1, 1, none⟩) (by dsimp only; omega) (.slice wa wl wc)
              have RO := tight.own_far HO8.out (p := ⟨w.heap.size + 1 + 1, 1, none⟩) (by dsimp only; omega) (.slice wa wl wc)
              refine hK.out _ _ (HS.out _ R0 RB) (fun hNew => ?_)
              clear x0 x1 x2 x3 x4 Q0 Q1 Q2 QB hHeld hK K hNew
              refine wpAnyH_done (by kernel_rfl) ?_ _
              have HRO := Lib.hid RO
              clear RO HO8
              generalize w8.setCell ⟨w.heap.size + 1 + 1, 1, none⟩ (.slice wa wl wc) = w9 at R0 R1 R2 RB HRO ⊢
              have wj : wrap64 ((j : Int) + 1) = (j : Int) + 1 := IntWalk.wrap64_in _ ⟨by omega, by omega⟩
              go_wp2_with fail
              go_roundw
              case rel => exact ⟨j + 1, by omega, by go_num, .slice wa wl wc, R0, R1, R2, by rw [← Nat.add_assoc, HUP.out, List.length_append, List.map_append]; exact HRO.out, RB⟩
              case measure => simp [intOf]; omega
            · go_simp
              have M7 := lies.made wr.drew 29 #[.int .i64 z]
              have O7 := (World.ownsRow.drew hO).alloc (.cells #[.int .i64 z] 29)
              have P0 := lies.on_alloc L0 (.cells #[.int .i64 z] 29)
              have P1 := lies.on_alloc L1 (.cells #[.int .i64 z] 29)
              have P2 := lies.on_alloc L2 (.cells #[.int .i64 z] 29)
              have PB := lies.frame_up LB (.cells #[.int .i64 z] 29)
              refine hK.out _ _ (HS.out _ P0 PB) (fun hNew => ?_)
              clear hHeld hK K
              have hHeld := hNew
              clear hNew
              try simp only [Act.put, List.getElem_toArray, List.getElem_cons_zero, List.getElem_cons_succ, List.setIfInBounds_toArray, List.set_cons_zero, List.set_cons_succ]
              obtain ⟨x0, x1, x2, x3, x4⟩ := lies.two L2'
              refine wpAnyH_ready (rs := [1]) (by kernel_rfl) (by simp) (AllReadyH.cons rfl (fun K hK => ?_) AllReadyH.nil)
              go_simp
              refine hK.out _ _ hHeld (fun hNew => ?_)
              clear x0 x1 x2 x3 x4
              clear hHeld hK K
              have hHeld := hNew
              clear hNew
              try simp only [Act.put, List.getElem_toArray, List.getElem_cons_zero, List.getElem_cons_succ, List.setIfInBounds_toArray, List.set_cons_zero, List.set_cons_succ]
              refine wpAnyH_ready (rs := [13]) (by kernel_rfl) (by simp) (AllReadyH.cons rfl (fun K hK => ?_) AllReadyH.nil)
              rw [if_pos (by rfl)]
              refine wp_append_own _ (.tmp 33) (.tmp 44) 22 rfl (w.heap.size + 1 + 1 + 1) 29 i0 (.int .i64 0) 1 8 Try.underlying22 HIN.out.1 HIN.out.2.1 HIN.out.2.2.1 HIN.out.2.2.2 rfl (by decide) _ _ _ rfl O7 ⟨wr.heap.size, 0, none⟩ 1 1 [.int .i64 z] rfl rfl (cell_one_new _ _ _) (by simp [Value.oneCell']) (app_room HQ.out).1 (app_room HQ.out).2 (by simp; omega) ?_
              intro v' w8 hown' hgrow _
              have hbk : ∀ q, (Value.slice va vl vc).ownBlock = some q → w.heap.size + 1 + 1 + 1 ≤ q := fun q e => (hO.lt q e).1
              have Q0 := (World.grownBy.block hgrow _ (lies.lt P0) (fun e => by have := hbk _ e.symm; omega)).trans P0
              have Q1 := (World.grownBy.block hgrow _ (lies.lt P1) (fun e => by have := hbk _ e.symm; omega)).trans P1
              have Q2 := (World.grownBy.block hgrow _ (lies.lt P2) (fun e => by have := hbk _ e.symm; omega)).trans P2
              have QB := PB.grown hgrow (by simp; omega) (fun q e => by have := hbk q e; omega)
              replace Q0 : lies.Lies w8 w.heap.size 24 #[.int .i64 n, .slice (some ⟨b, off, none⟩) (n * n) cap] := Q0
              replace Q1 : lies.Lies w8 (w.heap.size + 1) 24 #[.int .i64 0, .slice none 0 0] := Q1
              replace Q2 : lies.Lies w8 (w.heap.size + 1 + 1) 24 #[.int .i64 ((n - 1 : Nat) : Int), .slice va vl vc] := Q2
              obtain ⟨wa, wl, wc, rfl⟩ := tight.own_slice hown'
              have HO8 := Lib.hid hown'
              refine hK.out _ _ (HS.out _ Q0 QB) (fun hNew => ?_)
              clear hown' hgrow O7 M7 hO L0 L1 L2 LB P0 P1 P2 PB hbk
              clear hHeld hK K
              have hHeld := hNew
              clear hNew
              try simp only [Act.put, List.getElem_toArray, List.getElem_cons_zero, List.getElem_cons_succ, List.setIfInBounds_toArray, List.set_cons_zero, List.set_cons_succ]
              refine wpAnyH_take (i := 14) (v := ?_) rfl (by kernel_rfl) (by kernel_rfl) (by kernel_rfl) (fun _ _ _ h => h) (Or.inl ⟨by rfl, ?_⟩) hHeld ?_
              rotate_left
              · intro w hSw; skip; go_simp; try with_reducible rfl
              try simp only [Act.put, List.getElem_toArray, List.getElem_cons_zero, List.getElem_cons_succ, List.setIfInBounds_toArray, List.set_cons_zero, List.set_cons_succ]
              obtain ⟨x0, x1, x2, x3, x4⟩ := lies.two Q2
              refine wpAnyH_ready (rs := [15]) (by kernel_rfl) (by simp) (AllReadyH.cons rfl (fun K hK => ?_) AllReadyH.nil)
              go_simp
              have R0 := lies.on_far Q0 (b := w.heap.size + 1 + 1) 1 (by omega) (.slice wa wl wc)
              have R1 := lies.on_far Q1 (b := w.heap.size + 1 + 1) 1 (by omega) (.slice wa wl wc)
              have R2 := lies.on_put Q2 1 (.slice wa wl wc)
              have RB := QB.setCell (p := ⟨w.heap.size + 1 + 1, 1, none⟩) (by dsimp only; omega) (.slice wa wl wc)
              have RO := tight.own_far HO8.out (p := ⟨w.heap.size + 1 + 1, 1, none⟩) (by dsimp only; omega) (.slice wa wl wc)
              refine hK.out _ _ (HS.out _ R0 RB) (fun hNew => ?_)
              clear x0 x1 x2 x3 x4 Q0 Q1 Q2 QB hHeld hK K hNew
              refine wpAnyH_done (by kernel_rfl) ?_ _
              have HRO := Lib.hid RO
              clear RO HO8
              generalize w8.setCell ⟨w.heap.size + 1 + 1, 1, none⟩ (.slice wa wl wc) = w9 at R0 R1 R2 RB HRO ⊢
              have wj : wrap64 ((j : Int) + 1) = (j : Int) + 1 := IntWalk.wrap64_in _ ⟨by omega, by omega⟩
              go_wp2_with fail
              go_roundw
              case rel => exact ⟨j + 1, by omega, by go_num, .slice wa wl wc, R0, R1, R2, by rw [← Nat.add_assoc, HUP.out, List.length_append, List.map_append]; exact HRO.out, RB⟩
              case measure => simp [intOf]; omega
          · have HUP := Lib.hid (wiT_no (n := n) (k := k) us (q := i * n + j) (by rw [e1, e2]; exact hyn))
            clear e1 e2
            have hcase : (i : Int) = (k : Int) ∨ (¬ (i : Int) = (k : Int) ∧ (j : Int) = (k : Int)) := by
              by_cases h : i = k
              · exact .inl (by omega)
              · refine .inr ⟨by omega, ?_⟩
                have : ¬ j ≠ k := fun h2 => hyn ⟨h, h2⟩
                omega
            clear hyn
            rcases hcase with n1 | ⟨n1, n2⟩
            · have n1' : i = k := by omega
              subst n1'
              clear n1
              have wj : wrap64 ((j : Int) + 1) = (j : Int) + 1 := IntWalk.wrap64_in _ ⟨by omega, by omega⟩
              go_wp2_with fail
              go_roundw
              case rel => exact ⟨j + 1, by omega, by go_num, v, L0', L1', L2', by rw [← Nat.add_assoc, HUP.out]; exact hO, LB'⟩
              case measure => simp [intOf]; omega
            · have n2' : j = k := by omega
              subst n2'
              clear n2
              have wj : wrap64 ((j : Int) + 1) = (j : Int) + 1 := IntWalk.wrap64_in _ ⟨by omega, by omega⟩
              go_wp2_with fail
              go_roundw
              case rel => exact ⟨j + 1, by omega, by go_num, v, L0', L1', L2', by rw [← Nat.add_assoc, HUP.out]; exact hO, LB'⟩
              case measure => simp [intOf]; omega
        · obtain rfl : j = n := by omega
          have wi : wrap64 ((i : Int) + 1) = (i : Int) + 1 := IntWalk.wrap64_in _ ⟨by omega, by omega⟩
          go_wp2_with fail
          go_roundw
          case rel => exact ⟨i + 1, by omega, by go_num, v, L0', L1', L2', by rw [Nat.add_mul, Nat.one_mul]; exact hO, LB'⟩
          case measure => simp [intOf]; omega
    · obtain rfl : i = n := by omega
      obtain ⟨v, L0, L1, L2, hO, LB⟩ := hA
      have hall := wiT_all us hn h1 hk
      rw [hall, laidT_length] at hO
      obtain ⟨g, gc, rfl⟩ : ∃ g gc, v = .slice (some ⟨g, 0, none⟩) ((i - 1) * (i - 1)) gc := by
        rcases Go.Joins.ownsRow_forms hO with ⟨_, h⟩ | ⟨g, gc, h⟩
        · have := Nat.mul_pos hm0 hm0; omega
        · exact ⟨g, gc, h⟩
      have hgl := hO.lt g rfl
      have hrow := tref.own_row hO (laidT_length _ _ _ _)
      have HRW := Lib.hid hrow
      obtain ⟨y0, y1, y2, y3, y4⟩ := lies.two L0
      obtain ⟨z0, z1, z2, z3, z4⟩ := lies.two L1
      obtain ⟨x0, x1, x2, x3, x4⟩ := lies.two L2
      clear hO hrow
      go_wp2_with fail
      have hne1 : g ≠ w.heap.size + 1 := by omega
      refine bodyPost_ret (v := .agg #[.int .i64 ((i - 1 : Nat) : Int), .slice (some ⟨g, 0, none⟩) ((i - 1) * (i - 1)) gc]) (by simp [results, Try.results32, go_sem, z0, z1]) rfl ⟨(LB.setCell (p := ⟨w.heap.size + 1, 0, none⟩) (by dsimp only; omega) _).setCell (p := ⟨w.heap.size + 1, 1, none⟩) (by dsimp only; omega) _, g, gc, rfl, ?_, by simp; omega, by omega⟩
      intro p hp
      have h1 := HRW.out p (by exact hp)
      have h2 := World.cell?_of_block (a := ⟨g, 0 + p, none⟩) (Below.heap_setCell (wr.setCell ⟨w.heap.size + 1, 0, none⟩ (.int .i64 ((i - 1 : Nat) : Int))) ⟨w.heap.size + 1, 1, none⟩ (.slice (some ⟨g, 0, none⟩) ((i - 1) * (i - 1)) gc) g hne1)
      have h3 := World.cell?_of_block (a := ⟨g, 0 + p, none⟩) (Below.heap_setCell wr ⟨w.heap.size + 1, 0, none⟩ (.int .i64 ((i - 1 : Nat) : Int)) g hne1)
      exact h2.trans (h3.trans h1)
set_option maxRecDepth 100000 in
set_option maxHeartbeats 8000000 in
theorem moved_is (n b off cap ob oo oc : Nat) (o : Nat → Nat) (us : List Int) (w : World) (h0 : 0 < n) (hn : n ≤ 4) (hr : Row w b off us) (hb : b < w.heap.size) (hu : us.length = n * n) (ho : ∀ i, i < n → o i < n) (hob : ob < w.heap.size) (hc : ∀ i, i < n → w.cell? ⟨ob, oo + i, none⟩ = some (.int .i64 (o i : Int))) :
    Calls Try.prog 35 #[.agg #[.int .i64 n, .slice (some ⟨b, off, none⟩) (n * n) cap], .slice (some ⟨ob, oo, none⟩) n oc] w fun e w' => Below w.heap.size w w' ∧ ∃ g cc, e = .returned (.agg #[.int .i64 n, .slice (some ⟨g, 0, none⟩) (n * n) cc]) ∧ Row w' g 0 (moveT n o us) ∧ g < w'.heap.size ∧ w.heap.size ≤ g := by
  obtain ⟨i0, hi, hz0, hz1, hz2⟩ := info_parts info_b
  have HIN := Lib.hid (And.intro hi (And.intro hz0 (And.intro hz1 hz2)))
  have hsq := sq_le hn
  have hpp : 0 < n * n := Nat.mul_pos h0 h0
  have HR := Lib.hid hr
  have HU := Lib.hid hu
  have HO := Lib.hid ho
  have HC := Lib.hid hc
  clear ho hc
  clear hi hz0 hz1 hz2 hr hu
  have E0 := lies.on_alloc (lies.on_alloc (lies.made w 24 #[.int .i64 n, .slice (some ⟨b, off, none⟩) (n * n) cap]) (.cells #[.int .i64 0, .slice none 0 0] 24)) (.cells #[.int .i64 n, .slice none 0 0] 24)
  have E1 := lies.on_alloc (lies.made_at (w.alloc (.cells #[.int .i64 n, .slice (some ⟨b, off, none⟩) (n * n) cap] 24)) 24 #[.int .i64 0, .slice none 0 0] (w.heap.size + 1) (World.size_alloc _ _)) (.cells #[.int .i64 n, .slice none 0 0] 24)
  have E2 := lies.made_at ((w.alloc (.cells #[.int .i64 n, .slice (some ⟨b, off, none⟩) (n * n) cap] 24)).alloc (.cells #[.int .i64 0, .slice none 0 0] 24)) 24 #[.int .i64 n, .slice none 0 0] (w.heap.size + 1 + 1) (by simp)
  have EB := bound.up3 w (.cells #[.int .i64 n, .slice (some ⟨b, off, none⟩) (n * n) cap] 24) (.cells #[.int .i64 0, .slice none 0 0] 24) (.cells #[.int .i64 n, .slice none 0 0] 24)
  have I0 : OI n n b off cap 0 [] w _ := ⟨_, E0, E1, E2, World.ownsRow_nil _ _ _ _, EB⟩
  clear E0 E1 E2 EB
  go_enter Try.func35, Try.ntmps35
  go_wp2_with fail
  generalize ((w.alloc (.cells #[.int .i64 n, .slice (some ⟨b, off, none⟩) (n * n) cap] 24)).alloc (.cells #[.int .i64 0, .slice none 0 0] 24)).alloc (.cells #[.int .i64 n, .slice none 0 0] 24) = w0 at I0 ⊢
  go_loopw [6] (fun iv wr => ∃ i : Nat, i ≤ n ∧ iv = .int .i64 i ∧ OI n n b off cap (i * n) (moT n o us (i * n)) w wr) (fun iv _ => n - (intOf iv).toNat)
  case atStart => exact ⟨0, Nat.zero_le _, rfl, by rw [Nat.zero_mul]; exact I0⟩
  case round =>
    clear I0
    obtain ⟨i, hi, rfl, hA⟩ := hrel
    by_cases hin : i < n
    · obtain ⟨y0, y1, y2, y3, y4⟩ := lies.two hA.choose_spec.1
      go_wp2_with fail
      clear y0 y1 y2 y3 y4
      go_loopw [7] (fun jv wr => ∃ j : Nat, j ≤ n ∧ jv = .int .i64 j ∧ OI n n b off cap (i * n + j) (moT n o us (i * n + j)) w wr) (fun jv _ => n - (intOf jv).toNat)
      case atStart => exact ⟨0, Nat.zero_le _, rfl, hA⟩
      case round =>
        clear hA
        obtain ⟨j, hj, rfl, v, L0', L1', L2', hO, LB'⟩ := hrel
        obtain ⟨y0, y1, y2, y3, y4⟩ := lies.two L0'
        by_cases hjn : j < n
        · have hx := HO.out i hin
          have hy := HO.out j hjn
          have e1 : (i * n + j) % n = j := (place_div hjn).2
          have e2 : (i * n + j) / n = i := (place_div hjn).1
          have hup := moT_up n o us (i * n + j)
          rw [e1, e2] at hup
          clear e1 e2
          have c1 := (HC.out i hin)
          have c2 := (HC.out j hjn)
          generalize o i = x at hx hup c1
          generalize o j = y at hy hup c2
          obtain ⟨q1, q2, q3, q4, q5, q6, q7⟩ := dref.place_int hn hx hy
          have hkj := place_le hn hin hjn
          have hz0 := HR.out (x * n + y) (by rw [HU.out]; exact place_le hn hx hy)
          unfold tat at hup
          generalize us[x * n + y]?.getD 0 = z at hz0 hup
          have hz := (LB'.cell (p := ⟨b, off + (x * n + y), none⟩) hb).trans hz0
          have c1' := (LB'.cell (p := ⟨ob, oo + i, none⟩) hob).trans c1
          have c2' := (LB'.cell (p := ⟨ob, oo + j, none⟩) hob).trans c2
          generalize hus : moT n o us (i * n + j) = xs at hO hup
          have HQ : RowKit.Hid (i * n + j < 17) := Lib.hid (by omega)
          have HUP := Lib.hid hup
          clear hus
          obtain ⟨va, vl, vc, rfl⟩ := tight.own_slice hO
          have hS : ∀ W, lies.Lies W w.heap.size 24 #[.int .i64 n, .slice (some ⟨b, off, none⟩) (n * n) cap] → Below w.heap.size w W → (W.cell? ⟨w.heap.size, 0, none⟩ = some (.int .i64 n) ∧ W.cell? ⟨w.heap.size, 1, none⟩ = some (.slice (some ⟨b, off, none⟩) (n * n) cap)) ∧ W.cell? ⟨b, off + (x * n + y), none⟩ = some (.int .i64 z) ∧ W.cell? ⟨ob, oo + i, none⟩ = some (.int .i64 (x : Int)) ∧ W.cell? ⟨ob, oo + j, none⟩ = some (.int .i64 (y : Int)) := fun W h k => ⟨lies.pair h, (k.cell (p := ⟨b, off + (x * n + y), none⟩) hb).trans hz0, (k.cell (p := ⟨ob, oo + i, none⟩) hob).trans c1, (k.cell (p := ⟨ob, oo + j, none⟩) hob).trans c2⟩
          have HS := Lib.hid hS
          clear hS hup
          go_wp2_with fail
          clear y0 y1 y2 y3 y4 hz c1' c2' c1 c2 hz0
          have L0 : lies.Lies wr.drew w.heap.size 24 #[.int .i64 n, .slice (some ⟨b, off, none⟩) (n * n) cap] := L0'
          have L1 : lies.Lies wr.drew (w.heap.size + 1) 24 #[.int .i64 0, .slice none 0 0] := L1'
          have L2 : lies.Lies wr.drew (w.heap.size + 1 + 1) 24 #[.int .i64 n, .slice va vl vc] := L2'
          have LB : Below w.heap.size w wr.drew := lies.frame_drew LB'
          have hsz := LB'.size
          have hlt2 := lies.lt L2'
          clear L0' L1' LB'
          have wj : wrap64 ((j : Int) + 1) = (j : Int) + 1 := IntWalk.wrap64_in _ ⟨by omega, by omega⟩
          refine wp_region_held_drew (S := fun W => (W.cell? ⟨w.heap.size, 0, none⟩ = some (.int .i64 n) ∧ W.cell? ⟨w.heap.size, 1, none⟩ = some (.slice (some ⟨b, off, none⟩) (n * n) cap)) ∧ W.cell? ⟨b, off + (x * n + y), none⟩ = some (.int .i64 z) ∧ W.cell? ⟨ob, oo + i, none⟩ = some (.int .i64 (x : Int)) ∧ W.cell? ⟨ob, oo + j, none⟩ = some (.int .i64 (y : Int))) (by kernel_rfl) (HS.out _ L0 LB) (fun hHeld => ?_)
          refine wpAnyH_take (i := 0) (v := ?_) rfl (by kernel_rfl) (by kernel_rfl) (by kernel_rfl) (fun _ _ _ h => h) (Or.inl ⟨by rfl, ?_⟩) hHeld ?_
          rotate_left
          · intro w hSw; skip; go_simp; try with_reducible rfl
          try simp only [Act.put, List.getElem_toArray, List.getElem_cons_zero, List.getElem_cons_succ, List.setIfInBounds_toArray, List.set_cons_zero, List.set_cons_succ]
          refine wpAnyH_take (i := 2) (v := ?_) rfl (by kernel_rfl) (by kernel_rfl) (by kernel_rfl) (fun _ _ _ h => h) (Or.inl ⟨by rfl, ?_⟩) hHeld ?_
          rotate_left
          · intro w hSw; obtain ⟨⟨s0, s1⟩, s2, s3, s4⟩ := hSw; go_simp; try with_reducible rfl
          try simp only [Act.put, List.getElem_toArray, List.getElem_cons_zero, List.getElem_cons_succ, List.setIfInBounds_toArray, List.set_cons_zero, List.set_cons_succ]
          refine wpAnyH_take (i := 3) (v := ?_) rfl (by kernel_rfl) (by kernel_rfl) (by kernel_rfl) (fun _ _ _ h => h) (Or.inl ⟨by rfl, ?_⟩) hHeld ?_
          rotate_left
          · intro w hSw; obtain ⟨⟨s0, s1⟩, s2, s3, s4⟩ := hSw; go_simp; try with_reducible rfl
          try simp only [Act.put, List.getElem_toArray, List.getElem_cons_zero, List.getElem_cons_succ, List.setIfInBounds_toArray, List.set_cons_zero, List.set_cons_succ]
          refine wpAnyH_take (i := 4) (v := ?_) rfl (by kernel_rfl) (by kernel_rfl) (by kernel_rfl) (fun _ _ _ h => h) (Or.inl ⟨by rfl, ?_⟩) hHeld ?_
          rotate_left
          · intro w hSw; obtain ⟨⟨s0, s1⟩, s2, s3, s4⟩ := hSw; go_simp; try with_reducible rfl
          try simp only [Act.put, List.getElem_toArray, List.getElem_cons_zero, List.getElem_cons_succ, List.setIfInBounds_toArray, List.set_cons_zero, List.set_cons_succ]
          refine wpAnyH_take (i := 5) (v := ?_) rfl (by kernel_rfl) (by kernel_rfl) (by kernel_rfl) (fun _ _ _ h => h) (Or.inl ⟨by rfl, ?_⟩) hHeld ?_
          rotate_left
          · intro w hSw; obtain ⟨⟨s0, s1⟩, s2, s3, s4⟩ := hSw; go_simp; try with_reducible rfl
          try simp only [Act.put, List.getElem_toArray, List.getElem_cons_zero, List.getElem_cons_succ, List.setIfInBounds_toArray, List.set_cons_zero, List.set_cons_succ]
          refine wpAnyH_take (i := 6) (v := ?_) rfl (by kernel_rfl) (by kernel_rfl) (by kernel_rfl) (fun _ _ _ h => h) (Or.inl ⟨by rfl, ?_⟩) hHeld ?_
          rotate_left
          · intro w hSw; obtain ⟨⟨s0, s1⟩, s2, s3, s4⟩ := hSw; go_simp; try with_reducible rfl
          try simp only [Act.put, List.getElem_toArray, List.getElem_cons_zero, List.getElem_cons_succ, List.setIfInBounds_toArray, List.set_cons_zero, List.set_cons_succ]
          refine wpAnyH_take (i := 7) (v := ?_) rfl (by kernel_rfl) (by kernel_rfl) (by kernel_rfl) (fun _ _ _ h => h) (Or.inl ⟨by rfl, ?_⟩) hHeld ?_
          rotate_left
          · intro w hSw; obtain ⟨⟨s0, s1⟩, s2, s3, s4⟩ := hSw; go_simp; try with_reducible rfl
          try simp only [Act.put, List.getElem_toArray, List.getElem_cons_zero, List.getElem_cons_succ, List.setIfInBounds_toArray, List.set_cons_zero, List.set_cons_succ]
          refine wpAnyH_take (i := 8) (v := ?_) rfl (by kernel_rfl) (by kernel_rfl) (by kernel_rfl) (fun _ _ _ h => h) (Or.inl ⟨by rfl, ?_⟩) hHeld ?_
          rotate_left
          · intro w hSw; obtain ⟨⟨s0, s1⟩, s2, s3, s4⟩ := hSw; go_simp; try with_reducible rfl
          try simp only [Act.put, List.getElem_toArray, List.getElem_cons_zero, List.getElem_cons_succ, List.setIfInBounds_toArray, List.set_cons_zero, List.set_cons_succ]
          refine wpAnyH_take (i := 9) (v := ?_) rfl (by kernel_rfl) (by kernel_rfl) (by kernel_rfl) (fun _ _ _ h => h) (Or.inl ⟨by rfl, ?_⟩) hHeld ?_
          rotate_left
          · intro w hSw; obtain ⟨⟨s0, s1⟩, s2, s3, s4⟩ := hSw; go_simp; try with_reducible rfl
          try simp only [Act.put, List.getElem_toArray, List.getElem_cons_zero, List.getElem_cons_succ, List.setIfInBounds_toArray, List.set_cons_zero, List.set_cons_succ]
          refine wpAnyH_take (i := 10) (v := ?_) rfl (by kernel_rfl) (by kernel_rfl) (by kernel_rfl) (fun _ _ _ h => h) (Or.inl ⟨by rfl, ?_⟩) hHeld ?_
          rotate_left
          · intro w hSw; obtain ⟨⟨s0, s1⟩, s2, s3, s4⟩ := hSw; go_simp; try with_reducible rfl
          try simp only [Act.put, List.getElem_toArray, List.getElem_cons_zero, List.getElem_cons_succ, List.setIfInBounds_toArray, List.set_cons_zero, List.set_cons_succ]
          refine wpAnyH_take (i := 11) (v := ?_) rfl (by kernel_rfl) (by kernel_rfl) (by kernel_rfl) (fun _ _ _ h => h) (Or.inl ⟨by rfl, ?_⟩) hHeld ?_
          rotate_left
          · intro w hSw; obtain ⟨⟨s0, s1⟩, s2, s3, s4⟩ := hSw; go_simp; try with_reducible rfl
          try simp only [Act.put, List.getElem_toArray, List.getElem_cons_zero, List.getElem_cons_succ, List.setIfInBounds_toArray, List.set_cons_zero, List.set_cons_succ]
          refine wpAnyH_take (i := 12) (v := ?_) rfl (by kernel_rfl) (by kernel_rfl) (by kernel_rfl) (fun _ _ _ h => h) (Or.inl ⟨by rfl, ?_⟩) hHeld ?_
          rotate_left
          · intro w hSw; obtain ⟨⟨s0, s1⟩, s2, s3, s4⟩ := hSw; go_simp; try with_reducible rfl
          try simp only [Act.put, List.getElem_toArray, List.getElem_cons_zero, List.getElem_cons_succ, List.setIfInBounds_toArray, List.set_cons_zero, List.set_cons_succ]
          refine wpAnyH_take (i := 13) (v := ?_) rfl (by kernel_rfl) (by kernel_rfl) (by kernel_rfl) (fun _ _ _ h => h) (Or.inl ⟨by rfl, ?_⟩) hHeld ?_
          rotate_left
          · intro w hSw; obtain ⟨⟨s0, s1⟩, s2, s3, s4⟩ := hSw; go_simp; try with_reducible rfl
          try simp only [Act.put, List.getElem_toArray, List.getElem_cons_zero, List.getElem_cons_succ, List.setIfInBounds_toArray, List.set_cons_zero, List.set_cons_succ]
          refine wpAnyH_take (i := 14) (v := ?_) rfl (by kernel_rfl) (by kernel_rfl) (by kernel_rfl) (fun _ _ _ h => h) (Or.inl ⟨by rfl, ?_⟩) hHeld ?_
          rotate_left
          · intro w hSw; obtain ⟨⟨s0, s1⟩, s2, s3, s4⟩ := hSw; go_simp; try with_reducible rfl
          try simp only [Act.put, List.getElem_toArray, List.getElem_cons_zero, List.getElem_cons_succ, List.setIfInBounds_toArray, List.set_cons_zero, List.set_cons_succ]
          refine wpAnyH_take (i := 15) (v := ?_) rfl (by kernel_rfl) (by kernel_rfl) (by kernel_rfl) (fun _ _ _ h => h) (Or.inl ⟨by rfl, ?_⟩) hHeld ?_
          rotate_left
          · intro w hSw; obtain ⟨⟨s0, s1⟩, s2, s3, s4⟩ := hSw; go_simp; try with_reducible rfl
          try simp only [Act.put, List.getElem_toArray, List.getElem_cons_zero, List.getElem_cons_succ, List.setIfInBounds_toArray, List.set_cons_zero, List.set_cons_succ]
          refine wpAnyH_take (i := 16) (v := ?_) rfl (by kernel_rfl) (by kernel_rfl) (by kernel_rfl) (fun _ _ _ h => h) (Or.inl ⟨by rfl, ?_⟩) hHeld ?_
          rotate_left
          · intro w hSw; obtain ⟨⟨s0, s1⟩, s2, s3, s4⟩ := hSw; go_simp; try with_reducible rfl
          try simp only [Act.put, List.getElem_toArray, List.getElem_cons_zero, List.getElem_cons_succ, List.setIfInBounds_toArray, List.set_cons_zero, List.set_cons_succ]
          refine wpAnyH_take (i := 17) (v := ?_) rfl (by kernel_rfl) (by kernel_rfl) (by kernel_rfl) (fun _ _ _ h => h) (Or.inl ⟨by rfl, ?_⟩) hHeld ?_
          rotate_left
          · intro w hSw; obtain ⟨⟨s0, s1⟩, s2, s3, s4⟩ := hSw; go_simp; try with_reducible rfl
          try simp only [Act.put, List.getElem_toArray, List.getElem_cons_zero, List.getElem_cons_succ, List.setIfInBounds_toArray, List.set_cons_zero, List.set_cons_succ]
          clear q1 q2 q3 q4 q5 q6 q7 hx hy hkj
          refine wpAnyH_ready (rs := [1, 18]) (by kernel_rfl) (by simp) (AllReadyH.cons rfl (fun K hK => ?_) (AllReadyH.cons rfl (fun K hK => ?_) AllReadyH.nil))
          · obtain ⟨x0, x1, x2, x3, x4⟩ := lies.two L2'
            go_simp
            refine hK.out _ _ hHeld (fun hNew => ?_)
            clear x0 x1 x2 x3 x4
            clear hHeld hK K
            have hHeld := hNew
            clear hNew
            try simp only [Act.put, List.getElem_toArray, List.getElem_cons_zero, List.getElem_cons_succ, List.setIfInBounds_toArray, List.set_cons_zero, List.set_cons_succ]
            clear L2'
            refine wpAnyH_ready (rs := [18]) (by kernel_rfl) (by simp) (AllReadyH.cons rfl (fun K hK => ?_) AllReadyH.nil)
            go_simp
            have M7 := lies.made wr.drew 29 #[.int .i64 z]
            have O7 := (World.ownsRow.drew hO).alloc (.cells #[.int .i64 z] 29)
            have P0 := lies.on_alloc L0 (.cells #[.int .i64 z] 29)
            have P1 := lies.on_alloc L1 (.cells #[.int .i64 z] 29)
            have P2 := lies.on_alloc L2 (.cells #[.int .i64 z] 29)
            have PB := lies.frame_up LB (.cells #[.int .i64 z] 29)
            refine hK.out _ _ (HS.out _ P0 PB) (fun hNew => ?_)
            clear hHeld hK K
            have hHeld := hNew
            clear hNew
            try simp only [Act.put, List.getElem_toArray, List.getElem_cons_zero, List.getElem_cons_succ, List.setIfInBounds_toArray, List.set_cons_zero, List.set_cons_succ]
            refine wpAnyH_ready (rs := [19]) (by kernel_rfl) (by simp) (AllReadyH.cons rfl (fun K hK => ?_) AllReadyH.nil)
            rw [if_pos (by rfl)]
            refine wp_append_own _ (.tmp 24) (.tmp 41) 22 rfl (w.heap.size + 1 + 1 + 1) 29 i0 (.int .i64 0) 1 8 Try.underlying22 HIN.out.1 HIN.out.2.1 HIN.out.2.2.1 HIN.out.2.2.2 rfl (by decide) _ _ _ rfl O7 ⟨wr.heap.size, 0, none⟩ 1 1 [.int .i64 z] rfl rfl (cell_one_new _ _ _) (by simp [Value.oneCell']) (app_room HQ.out).1 (app_room HQ.out).2 (by simp; omega) ?_
            intro v' w8 hown' hgrow _
            have hbk : ∀ q, (Value.slice va vl vc).ownBlock = some q → w.heap.size + 1 + 1 + 1 ≤ q := fun q e => (hO.lt q e).1
            have Q0 := (World.grownBy.block hgrow _ (lies.lt P0) (fun e => by have := hbk _ e.symm; omega)).trans P0
            have Q1 := (World.grownBy.block hgrow _ (lies.lt P1) (fun e => by have := hbk _ e.symm; omega)).trans P1
            have Q2 := (World.grownBy.block hgrow _ (lies.lt P2) (fun e => by have := hbk _ e.symm; omega)).trans P2
            have QB := PB.grown hgrow (by simp; omega) (fun q e => by have := hbk q e; omega)
            replace Q0 : lies.Lies w8 w.heap.size 24 #[.int .i64 n, .slice (some ⟨b, off, none⟩) (n * n) cap] := Q0
            replace Q1 : lies.Lies w8 (w.heap.size + 1) 24 #[.int .i64 0, .slice none 0 0] := Q1
            replace Q2 : lies.Lies w8 (w.heap.size + 1 + 1) 24 #[.int .i64 n, .slice va vl vc] := Q2
            obtain ⟨wa, wl, wc, rfl⟩ := tight.own_slice hown'
            have HO8 := Lib.hid hown'
            refine hK.out _ _ (HS.out _ Q0 QB) (fun hNew => ?_)
            clear hown' hgrow O7 M7 hO L0 L1 L2 LB P0 P1 P2 PB hbk
            clear hHeld hK K
            have hHeld := hNew
            clear hNew
            try simp only [Act.put, List.getElem_toArray, List.getElem_cons_zero, List.getElem_cons_succ, List.setIfInBounds_toArray, List.set_cons_zero, List.set_cons_succ]
            refine wpAnyH_take (i := 20) (v := ?_) rfl (by kernel_rfl) (by kernel_rfl) (by kernel_rfl) (fun _ _ _ h => h) (Or.inl ⟨by rfl, ?_⟩) hHeld ?_
            rotate_left
            · intro w hSw; skip; go_simp; try with_reducible rfl
            try simp only [Act.put, List.getElem_toArray, List.getElem_cons_zero, List.getElem_cons_succ, List.setIfInBounds_toArray, List.set_cons_zero, List.set_cons_succ]
            obtain ⟨x0, x1, x2, x3, x4⟩ := lies.two Q2
            refine wpAnyH_ready (rs := [21]) (by kernel_rfl) (by simp) (AllReadyH.cons rfl (fun K hK => ?_) AllReadyH.nil)
            go_simp
            have R0 := lies.on_far Q0 (b := w.heap.size + 1 + 1) 1 (by omega) (.slice wa wl wc)
            have R1 := lies.on_far Q1 (b := w.heap.size + 1 + 1) 1 (by omega) (.slice wa wl wc)
            have R2 := lies.on_put Q2 1 (.slice wa wl wc)
            have RB := QB.setCell (p := ⟨w.heap.size + 1 + 1, 1, none⟩) (by dsimp only; omega) (.slice wa wl wc)
            have RO := tight.own_far HO8.out (p := ⟨w.heap.size + 1 + 1, 1, none⟩) (by dsimp only; omega) (.slice wa wl wc)
            refine hK.out _ _ (HS.out _ R0 RB) (fun hNew => ?_)
            clear x0 x1 x2 x3 x4 Q0 Q1 Q2 QB hHeld hK K hNew
            refine wpAnyH_done (by kernel_rfl) ?_ _
            have HRO := Lib.hid RO
            clear RO HO8
            generalize w8.setCell ⟨w.heap.size + 1 + 1, 1, none⟩ (.slice wa wl wc) = w9 at R0 R1 R2 RB HRO ⊢
            go_wp2_with fail
            go_roundw
            case rel => exact ⟨j + 1, by omega, by go_num, .slice wa wl wc, R0, R1, R2, by rw [← Nat.add_assoc, HUP.out, List.map_append]; exact HRO.out, RB⟩
            case measure => simp [intOf]; omega
          · go_simp
            have M7 := lies.made wr.drew 29 #[.int .i64 z]
            have O7 := (World.ownsRow.drew hO).alloc (.cells #[.int .i64 z] 29)
            have P0 := lies.on_alloc L0 (.cells #[.int .i64 z] 29)
            have P1 := lies.on_alloc L1 (.cells #[.int .i64 z] 29)
            have P2 := lies.on_alloc L2 (.cells #[.int .i64 z] 29)
            have PB := lies.frame_up LB (.cells #[.int .i64 z] 29)
            refine hK.out _ _ (HS.out _ P0 PB) (fun hNew => ?_)
            clear hHeld hK K
            have hHeld := hNew
            clear hNew
            try simp only [Act.put, List.getElem_toArray, List.getElem_cons_zero, List.getElem_cons_succ, List.setIfInBounds_toArray, List.set_cons_zero, List.set_cons_succ]
            obtain ⟨x0, x1, x2, x3, x4⟩ := lies.two L2'
            refine wpAnyH_ready (rs := [1]) (by kernel_rfl) (by simp) (AllReadyH.cons rfl (fun K hK => ?_) AllReadyH.nil)
            go_simp
            refine hK.out _ _ hHeld (fun hNew => ?_)
            clear x0 x1 x2 x3 x4
            clear hHeld hK K
            have hHeld := hNew
            clear hNew
            try simp only [Act.put, List.getElem_toArray, List.getElem_cons_zero, List.getElem_cons_succ, List.setIfInBounds_toArray, List.set_cons_zero, List.set_cons_succ]
            refine wpAnyH_ready (rs := [19]) (by kernel_rfl) (by simp) (AllReadyH.cons rfl (fun K hK => ?_) AllReadyH.nil)
            rw [if_pos (by rfl)]
            refine wp_append_own _ (.tmp 24) (.tmp 41) 22 rfl (w.heap.size + 1 + 1 + 1) 29 i0 (.int .i64 0) 1 8 Try.underlying22 HIN.out.1 HIN.out.2.1 HIN.out.2.2.1 HIN.out.2.2.2 rfl (by decide) _ _ _ rfl O7 ⟨wr.heap.size, 0, none⟩ 1 1 [.int .i64 z] rfl rfl (cell_one_new _ _ _) (by simp [Value.oneCell']) (app_room HQ.out).1 (app_room HQ.out).2 (by simp; omega) ?_
            intro v' w8 hown' hgrow _
            have hbk : ∀ q, (Value.slice va vl vc).ownBlock = some q → w.heap.size + 1 + 1 + 1 ≤ q := fun q e => (hO.lt q e).1
            have Q0 := (World.grownBy.block hgrow _ (lies.lt P0) (fun e => by have := hbk _ e.symm; omega)).trans P0
            have Q1 := (World.grownBy.block hgrow _ (lies.lt P1) (fun e => by have := hbk _ e.symm; omega)).trans P1
            have Q2 := (World.grownBy.block hgrow _ (lies.lt P2) (fun e => by have := hbk _ e.symm; omega)).trans P2
            have QB := PB.grown hgrow (by simp; omega) (fun q e => by have := hbk q e; omega)
            replace Q0 : lies.Lies w8 w.heap.size 24 #[.int .i64 n, .slice (some ⟨b, off, none⟩) (n * n) cap] := Q0
            replace Q1 : lies.Lies w8 (w.heap.size + 1) 24 #[.int .i64 0, .slice none 0 0] := Q1
            replace Q2 : lies.Lies w8 (w.heap.size + 1 + 1) 24 #[.int .i64 n, .slice va vl vc] := Q2
            obtain ⟨wa, wl, wc, rfl⟩ := tight.own_slice hown'
            have HO8 := Lib.hid hown'
            refine hK.out _ _ (HS.out _ Q0 QB) (fun hNew => ?_)
            clear hown' hgrow O7 M7 hO L0 L1 L2 LB P0 P1 P2 PB hbk
            clear hHeld hK K
            have hHeld := hNew
            clear hNew
            try simp only [Act.put, List.getElem_toArray, List.getElem_cons_zero, List.getElem_cons_succ, List.setIfInBounds_toArray, List.set_cons_zero, List.set_cons_succ]
            refine wpAnyH_take (i := 20) (v := ?_) rfl (by kernel_rfl) (by kernel_rfl) (by kernel_rfl) (fun _ _ _ h => h) (Or.inl ⟨by rfl, ?_⟩) hHeld ?_
            rotate_left
            · intro w hSw; skip; go_simp; try with_reducible rfl
            try simp only [Act.put, List.getElem_toArray, List.getElem_cons_zero, List.getElem_cons_succ, List.setIfInBounds_toArray, List.set_cons_zero, List.set_cons_succ]
            obtain ⟨x0, x1, x2, x3, x4⟩ := lies.two Q2
            refine wpAnyH_ready (rs := [21]) (by kernel_rfl) (by simp) (AllReadyH.cons rfl (fun K hK => ?_) AllReadyH.nil)
            go_simp
            have R0 := lies.on_far Q0 (b := w.heap.size + 1 + 1) 1 (by omega) (.slice wa wl wc)
            have R1 := lies.on_far Q1 (b := w.heap.size + 1 + 1) 1 (by omega) (.slice wa wl wc)
            have R2 := lies.on_put Q2 1 (.slice wa wl wc)
            have RB := QB.setCell (p := ⟨w.heap.size + 1 + 1, 1, none⟩) (by dsimp only; omega) (.slice wa wl wc)
            have RO := tight.own_far HO8.out (p := ⟨w.heap.size + 1 + 1, 1, none⟩) (by dsimp only; omega) (.slice wa wl wc)
            refine hK.out _ _ (HS.out _ R0 RB) (fun hNew => ?_)
            clear x0 x1 x2 x3 x4 Q0 Q1 Q2 QB hHeld hK K hNew
            refine wpAnyH_done (by kernel_rfl) ?_ _
            have HRO := Lib.hid RO
            clear RO HO8
            generalize w8.setCell ⟨w.heap.size + 1 + 1, 1, none⟩ (.slice wa wl wc) = w9 at R0 R1 R2 RB HRO ⊢
            go_wp2_with fail
            go_roundw
            case rel => exact ⟨j + 1, by omega, by go_num, .slice wa wl wc, R0, R1, R2, by rw [← Nat.add_assoc, HUP.out, List.map_append]; exact HRO.out, RB⟩
            case measure => simp [intOf]; omega
        · obtain rfl : j = n := by omega
          have wi : wrap64 ((i : Int) + 1) = (i : Int) + 1 := IntWalk.wrap64_in _ ⟨by omega, by omega⟩
          go_wp2_with fail
          go_roundw
          case rel => exact ⟨i + 1, by omega, by go_num, v, L0', L1', L2', by rw [Nat.add_mul, Nat.one_mul]; exact hO, LB'⟩
          case measure => simp [intOf]; omega
    · obtain rfl : i = n := by omega
      obtain ⟨v, L0, L1, L2, hO, LB⟩ := hA
      have hall := moT_all us h0 HO.out
      rw [hall] at hO
      obtain ⟨g, gc, rfl⟩ : ∃ g gc, v = .slice (some ⟨g, 0, none⟩) (i * i) gc := by
        rcases Go.Joins.ownsRow_forms hO with ⟨_, h⟩ | ⟨g, gc, h⟩
        · omega
        · exact ⟨g, gc, h⟩
      have hgl := hO.lt g rfl
      have hrow := tref.own_row hO (laidT_length _ _ _ _)
      have HRW := Lib.hid hrow
      obtain ⟨y0, y1, y2, y3, y4⟩ := lies.two L0
      obtain ⟨z0, z1, z2, z3, z4⟩ := lies.two L1
      obtain ⟨x0, x1, x2, x3, x4⟩ := lies.two L2
      clear hO hrow
      go_wp2_with fail
      have hne1 : g ≠ w.heap.size + 1 := by omega
      refine bodyPost_ret (v := .agg #[.int .i64 i, .slice (some ⟨g, 0, none⟩) (i * i) gc]) (by simp [results, Try.results35, go_sem, z0, z1]) rfl ⟨(LB.setCell (p := ⟨w.heap.size + 1, 0, none⟩) (by dsimp only; omega) _).setCell (p := ⟨w.heap.size + 1, 1, none⟩) (by dsimp only; omega) _, g, gc, rfl, ?_, by simp; omega, by omega⟩
      intro p hp
      have h1 := HRW.out p (by exact hp)
      have h2 := World.cell?_of_block (a := ⟨g, 0 + p, none⟩) (Below.heap_setCell (wr.setCell ⟨w.heap.size + 1, 0, none⟩ (.int .i64 i)) ⟨w.heap.size + 1, 1, none⟩ (.slice (some ⟨g, 0, none⟩) (i * i) gc) g hne1)
      have h3 := World.cell?_of_block (a := ⟨g, 0 + p, none⟩) (Below.heap_setCell wr ⟨w.heap.size + 1, 0, none⟩ (.int .i64 i) g hne1)
      exact h2.trans (h3.trans h1)
end Go.Proofs.Ytikjkmhnimpbhaa.pref
