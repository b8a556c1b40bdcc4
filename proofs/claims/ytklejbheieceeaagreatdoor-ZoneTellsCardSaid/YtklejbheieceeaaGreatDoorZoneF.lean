/-
  What Check, Has, In and Pick of package zone answer; each theorem names its conditions.
-/
import Derived.Test.YtklejbheieceeaaGreatDoorZoneE
namespace Go.Proofs.YtklejbheieceeaaGreatDoor.zone
open Go.Joins Go.ChangeShapes Go.WideShapes Go.ChangeAt Go.RowKit num rat dbm Go.Proofs.YtklejbheieceeaaGreatDoor.tight Go.Proofs.YtklejbheieceeaaGreatDoor.incl Go.Proofs.YtklejbheieceeaaGreatDoor.plaw Go.Proofs.YtklejbheieceeaaGreatDoor.zopen
open bound hiding up
set_option linter.unusedVariables false
set_option linter.unusedSimpArgs false

theorem row_z1 {W : World} {B : Nat} {t : TypeId} {a b c d e f : Int} (h : lies.Lies W B t #[.int .i64 a, .int .i64 b, .int .i64 c, .int .i64 d, .int .i64 e, .int .i64 f]) : RowZ W B 1 (fun _ => [a, b, c, d, e, f]) := fun k hk j hj => by
  obtain rfl : k = 0 := by omega
  rw [Nat.zero_mul, Nat.zero_add, lies.cell h j]
  rcases (by omega : j = 0 ∨ j = 1 ∨ j = 2 ∨ j = 3 ∨ j = 4 ∨ j = 5) with rfl | rfl | rfl | rfl | rfl | rfl <;> rfl
/-- two zones. -/
def zf2 (a b : List Int) (k : Nat) : List Int := if k = 0 then a else b
theorem row_z2 {W : World} {B : Nat} {t : TypeId} {a b c d e f a' b' c' d' e' f' : Int} (h : lies.Lies W B t #[.int .i64 a, .int .i64 b, .int .i64 c, .int .i64 d, .int .i64 e, .int .i64 f, .int .i64 a', .int .i64 b', .int .i64 c', .int .i64 d', .int .i64 e', .int .i64 f']) : RowZ W B 2 (zf2 [a, b, c, d, e, f] [a', b', c', d', e', f']) := fun k hk j hj => by
  rcases (by omega : k = 0 ∨ k = 1) with rfl | rfl
  · rw [Nat.zero_mul, Nat.zero_add, lies.cell h j]
    rcases (by omega : j = 0 ∨ j = 1 ∨ j = 2 ∨ j = 3 ∨ j = 4 ∨ j = 5) with rfl | rfl | rfl | rfl | rfl | rfl <;> rfl
  · rw [lies.cell h (1 * 6 + j)]
    rcases (by omega : j = 0 ∨ j = 1 ∨ j = 2 ∨ j = 3 ∨ j = 4 ∨ j = 5) with rfl | rfl | rfl | rfl | rfl | rfl <;> rfl
/-- one matrix that lies in a row. -/
def One (n₀ : Nat) (W : World) (q o : Nat) (z : List Int) : Prop := ∃ g c, n₀ ≤ g ∧ n₀ ≤ q ∧ q < W.heap.size ∧ W.cell? ⟨q, o, none⟩ = some (.int .i64 3) ∧ W.cell? ⟨q, o + 1, none⟩ = some (.slice (some ⟨g, 0, none⟩) 9 c) ∧ lies.Lies W g 22 (cellsOf (fullT z))
theorem mats_one {n₀ : Nat} {zf : Nat → List Int} {w' : World} {e : Ending} (h : Mats n₀ 1 zf w' e) : (MayZ (zf 0) ∧ ∃ q cap, e = .returned (.tuple #[.slice (some ⟨q, 0, none⟩) 1 cap, .int .i64 0]) ∧ One n₀ w' q 0 (zf 0)) ∨ (¬ MayZ (zf 0) ∧ e = .returned (.tuple #[.slice none 0 0, .int .i64 8])) := by
  rcases h with ⟨hm, v, gs, he, hl, hO, hg⟩ | ⟨⟨k, hk, hn⟩, he⟩
  · refine .inl ⟨hm 0 (by decide), ?_⟩
    match gs, hl with
    | [(g, c)], _ =>
      rcases ownsRow_forms hO with ⟨_, h0⟩ | ⟨q, cap, rfl⟩
      · exact absurd h0 (by decide)
      · have hlt := hO.lt q rfl
        obtain ⟨h1, h2⟩ := hg 0 (by decide)
        exact ⟨q, cap, he, g, c, h1, hlt.1, hlt.2, hO.cellAt 0 (by decide), hO.cellAt 1 (by decide), h2⟩
  · obtain rfl : k = 0 := by omega
    exact .inr ⟨hn, he⟩
theorem mats_two {n₀ : Nat} {zf : Nat → List Int} {w' : World} {e : Ending} (h : Mats n₀ 2 zf w' e) : (MayZ (zf 0) ∧ MayZ (zf 1) ∧ ∃ q cap, e = .returned (.tuple #[.slice (some ⟨q, 0, none⟩) 2 cap, .int .i64 0]) ∧ One n₀ w' q 0 (zf 0) ∧ One n₀ w' q 2 (zf 1)) ∨ (¬ (MayZ (zf 0) ∧ MayZ (zf 1)) ∧ e = .returned (.tuple #[.slice none 0 0, .int .i64 8])) := by
  rcases h with ⟨hm, v, gs, he, hl, hO, hg⟩ | ⟨⟨k, hk, hn⟩, he⟩
  · refine .inl ⟨hm 0 (by decide), hm 1 (by decide), ?_⟩
    match gs, hl with
    | [(g, c), (g', c')], _ =>
      rcases ownsRow_forms hO with ⟨_, h0⟩ | ⟨q, cap, rfl⟩
      · exact absurd h0 (by decide)
      · have hlt := hO.lt q rfl
        obtain ⟨h1, h2⟩ := hg 0 (by decide)
        obtain ⟨h3, h4⟩ := hg 1 (by decide)
        exact ⟨q, cap, he, ⟨g, c, h1, hlt.1, hlt.2, hO.cellAt 0 (by decide), hO.cellAt 1 (by decide), h2⟩, g', c', h3, hlt.1, hlt.2, hO.cellAt 2 (by decide), hO.cellAt 3 (by decide), h4⟩
  · refine .inr ⟨fun h => ?_, he⟩
    rcases (by omega : k = 0 ∨ k = 1) with rfl | rfl
    · exact hn h.1
    · exact hn h.2

/-- what Check answers. -/
def ChkZ (z : List Int) (w : World) (e : Ending) (w' : World) : Prop := Below w.heap.size w w' ∧ ∃ f : Int, e = .returned (.int .i64 f) ∧ ((MayZ z ∧ f = 0) ∨ (¬ MayZ z ∧ f = 8))
set_option maxRecDepth 100000 in
set_option maxHeartbeats 4000000 in
theorem check_any (z0 z1 z2 z3 z4 z5 : Int) (w : World) (hP : Pl w) (htop : Tops [z0, z1, z2, z3, z4, z5]) :
    Calls Tryz.prog 17 #[.agg #[.int .i64 z0, .int .i64 z1, .int .i64 z2, .int .i64 z3, .int .i64 z4, .int .i64 z5]] w (ChkZ [z0, z1, z2, z3, z4, z5] w) := by
  have DB := bound.up2 w (.cells #[.int .i64 z0, .int .i64 z1, .int .i64 z2, .int .i64 z3, .int .i64 z4, .int .i64 z5] 24) (.cells #[.int .i64 z0, .int .i64 z1, .int .i64 z2, .int .i64 z3, .int .i64 z4, .int .i64 z5] 24)
  have D1 := lies.made_at (w.alloc (.cells #[.int .i64 z0, .int .i64 z1, .int .i64 z2, .int .i64 z3, .int .i64 z4, .int .i64 z5] 24)) 24 #[.int .i64 z0, .int .i64 z1, .int .i64 z2, .int .i64 z3, .int .i64 z4, .int .i64 z5] (w.heap.size + 1) (by simp)
  have P0 := hP.on DB
  have HT := Lib.hid htop
  clear hP htop
  go_enter Tryz.func17, Tryz.ntmps17
  go_wp2_with fail
  generalize (w.alloc (.cells #[.int .i64 z0, .int .i64 z1, .int .i64 z2, .int .i64 z3, .int .i64 z4, .int .i64 z5] 24)).alloc (.cells #[.int .i64 z0, .int .i64 z1, .int .i64 z2, .int .i64 z3, .int .i64 z4, .int .i64 z5] 24) = w0 at DB D1 P0 ⊢
  refine (matrices_any (w.heap.size + 1) 1 (fun _ => [z0, z1, z2, z3, z4, z5]) w0 P0 (row_z1 D1) (lies.lt D1) (by decide) (fun _ _ => rfl) (fun _ _ => HT.out)).mono ?_
  rintro e w1 ⟨hB, hM⟩
  have EB := later DB hB
  clear hB DB D1 P0
  rcases mats_one hM with ⟨hm, q, cap, rfl, _⟩ | ⟨hm, rfl⟩
  · have HM := Lib.hid hm
    clear hm hM
    go_wp2_with fail
    go_ret
    exact ⟨EB, 0, rfl, .inl ⟨HM.out, rfl⟩⟩
  · have HM := Lib.hid hm
    clear hm hM
    go_wp2_with fail
    go_ret
    exact ⟨EB, 8, rfl, .inr ⟨HM.out, rfl⟩⟩

/-- what In answers. -/
def InR (a b : List Int) (r : Bool) (f : Int) : Prop := (¬ (MayZ a ∧ MayZ b) ∧ r = false ∧ f = 8) ∨ (MayZ a ∧ MayZ b ∧ f = 0 ∧ (r = true ↔ inV 3 (fullT a) (fullT b)))
def Ins (a b : List Int) (w : World) (e : Ending) (w' : World) : Prop := Below w.heap.size w w' ∧ ∃ (r : Bool) (f : Int), e = .returned (.tuple #[.bool r, .int .i64 f]) ∧ InR a b r f
set_option maxRecDepth 100000 in
set_option maxHeartbeats 4000000 in
theorem zin_any (a0 a1 a2 a3 a4 a5 b0 b1 b2 b3 b4 b5 : Int) (w : World) (hP : Pl w) (ta : Tops [a0, a1, a2, a3, a4, a5]) (tb : Tops [b0, b1, b2, b3, b4, b5]) :
    Calls Tryz.prog 10 #[.agg #[.int .i64 a0, .int .i64 a1, .int .i64 a2, .int .i64 a3, .int .i64 a4, .int .i64 a5], .agg #[.int .i64 b0, .int .i64 b1, .int .i64 b2, .int .i64 b3, .int .i64 b4, .int .i64 b5]] w (Ins [a0, a1, a2, a3, a4, a5] [b0, b1, b2, b3, b4, b5] w) := by
  have DB := bound.up3 w (.cells #[.int .i64 a0, .int .i64 a1, .int .i64 a2, .int .i64 a3, .int .i64 a4, .int .i64 a5] 24) (.cells #[.int .i64 b0, .int .i64 b1, .int .i64 b2, .int .i64 b3, .int .i64 b4, .int .i64 b5] 24) (.cells #[.int .i64 a0, .int .i64 a1, .int .i64 a2, .int .i64 a3, .int .i64 a4, .int .i64 a5, .int .i64 b0, .int .i64 b1, .int .i64 b2, .int .i64 b3, .int .i64 b4, .int .i64 b5] 24)
  have D1 := lies.made_at ((w.alloc (.cells #[.int .i64 a0, .int .i64 a1, .int .i64 a2, .int .i64 a3, .int .i64 a4, .int .i64 a5] 24)).alloc (.cells #[.int .i64 b0, .int .i64 b1, .int .i64 b2, .int .i64 b3, .int .i64 b4, .int .i64 b5] 24)) 24 #[.int .i64 a0, .int .i64 a1, .int .i64 a2, .int .i64 a3, .int .i64 a4, .int .i64 a5, .int .i64 b0, .int .i64 b1, .int .i64 b2, .int .i64 b3, .int .i64 b4, .int .i64 b5] (w.heap.size + 1 + 1) (by simp)
  have P0 := hP.on DB
  have HTA := Lib.hid ta
  have HTB := Lib.hid tb
  clear hP ta tb
  go_enter Tryz.func10, Tryz.ntmps10
  go_wp2_with fail
  generalize ((w.alloc (.cells #[.int .i64 a0, .int .i64 a1, .int .i64 a2, .int .i64 a3, .int .i64 a4, .int .i64 a5] 24)).alloc (.cells #[.int .i64 b0, .int .i64 b1, .int .i64 b2, .int .i64 b3, .int .i64 b4, .int .i64 b5] 24)).alloc (.cells #[.int .i64 a0, .int .i64 a1, .int .i64 a2, .int .i64 a3, .int .i64 a4, .int .i64 a5, .int .i64 b0, .int .i64 b1, .int .i64 b2, .int .i64 b3, .int .i64 b4, .int .i64 b5] 24) = w0 at DB D1 P0 ⊢
  refine (matrices_any (w.heap.size + 1 + 1) 2 (zf2 [a0, a1, a2, a3, a4, a5] [b0, b1, b2, b3, b4, b5]) w0 P0 (row_z2 D1) (lies.lt D1) (by decide) (fun k _ => by unfold zf2; split <;> rfl) (fun k _ => by unfold zf2; split; exact HTA.out; exact HTB.out)).mono ?_
  rintro e w1 ⟨hB, hM⟩
  have EB := later DB hB
  clear hB DB D1 P0
  rcases mats_two hM with ⟨hm, hn, q, cap, rfl, ⟨g, c, _, _, hq, x0, x1, hG⟩, g', c', _, _, _, y0, y1, hG'⟩ | ⟨hm, rfl⟩
  · have HM := Lib.hid hm
    have HN := Lib.hid hn
    clear hm hn hM
    go_wp2_with fail
    refine wp_region_held_drew (S := Below w1.heap.size w1) (by kernel_rfl) (dbm.drawn1 (Below.refl _ _)) (fun hHeld => ?_)
    refine wpAnyH_take (i := 0) (v := ?_) rfl (by kernel_rfl) (by kernel_rfl) (by kernel_rfl) (fun _ _ _ h => h) (Or.inl ⟨by rfl, ?_⟩) hHeld ?_
    rotate_left
    · intro w hSw; have s0 := (hSw.cell (p := ⟨q, 0, none⟩) hq).trans x0; have s1 := (hSw.cell (p := ⟨q, 1, none⟩) hq).trans x1; have s2 := (hSw.cell (p := ⟨q, 2, none⟩) hq).trans y0; have s3 := (hSw.cell (p := ⟨q, 3, none⟩) hq).trans y1; go_simp; try with_reducible rfl
    try simp only [Act.put, List.getElem_toArray, List.getElem_cons_zero, List.getElem_cons_succ, List.setIfInBounds_toArray, List.set_cons_zero, List.set_cons_succ]
    refine wpAnyH_take (i := 1) (v := ?_) rfl (by kernel_rfl) (by kernel_rfl) (by kernel_rfl) (fun _ _ _ h => h) (Or.inl ⟨by rfl, ?_⟩) hHeld ?_
    rotate_left
    · intro w hSw; have s0 := (hSw.cell (p := ⟨q, 0, none⟩) hq).trans x0; have s1 := (hSw.cell (p := ⟨q, 1, none⟩) hq).trans x1; have s2 := (hSw.cell (p := ⟨q, 2, none⟩) hq).trans y0; have s3 := (hSw.cell (p := ⟨q, 3, none⟩) hq).trans y1; go_simp; try with_reducible rfl
    try simp only [Act.put, List.getElem_toArray, List.getElem_cons_zero, List.getElem_cons_succ, List.setIfInBounds_toArray, List.set_cons_zero, List.set_cons_succ]
    refine wpAnyH_take (i := 2) (v := ?_) rfl (by kernel_rfl) (by kernel_rfl) (by kernel_rfl) (fun _ _ _ h => h) (Or.inl ⟨by rfl, ?_⟩) hHeld ?_
    rotate_left
    · intro w hSw; have s0 := (hSw.cell (p := ⟨q, 0, none⟩) hq).trans x0; have s1 := (hSw.cell (p := ⟨q, 1, none⟩) hq).trans x1; have s2 := (hSw.cell (p := ⟨q, 2, none⟩) hq).trans y0; have s3 := (hSw.cell (p := ⟨q, 3, none⟩) hq).trans y1; go_simp; try with_reducible rfl
    try simp only [Act.put, List.getElem_toArray, List.getElem_cons_zero, List.getElem_cons_succ, List.setIfInBounds_toArray, List.set_cons_zero, List.set_cons_succ]
    refine wpAnyH_take (i := 3) (v := ?_) rfl (by kernel_rfl) (by kernel_rfl) (by kernel_rfl) (fun _ _ _ h => h) (Or.inl ⟨by rfl, ?_⟩) hHeld ?_
    rotate_left
    · intro w hSw; have s0 := (hSw.cell (p := ⟨q, 0, none⟩) hq).trans x0; have s1 := (hSw.cell (p := ⟨q, 1, none⟩) hq).trans x1; have s2 := (hSw.cell (p := ⟨q, 2, none⟩) hq).trans y0; have s3 := (hSw.cell (p := ⟨q, 3, none⟩) hq).trans y1; go_simp; try with_reducible rfl
    try simp only [Act.put, List.getElem_toArray, List.getElem_cons_zero, List.getElem_cons_succ, List.setIfInBounds_toArray, List.set_cons_zero, List.set_cons_succ]
    refine wpAnyH_take (i := 4) (v := ?_) rfl (by kernel_rfl) (by kernel_rfl) (by kernel_rfl) (fun _ _ _ h => h) (Or.inl ⟨by rfl, ?_⟩) hHeld ?_
    rotate_left
    · intro w hSw; have s0 := (hSw.cell (p := ⟨q, 0, none⟩) hq).trans x0; have s1 := (hSw.cell (p := ⟨q, 1, none⟩) hq).trans x1; have s2 := (hSw.cell (p := ⟨q, 2, none⟩) hq).trans y0; have s3 := (hSw.cell (p := ⟨q, 3, none⟩) hq).trans y1; go_simp; try with_reducible rfl
    try simp only [Act.put, List.getElem_toArray, List.getElem_cons_zero, List.getElem_cons_succ, List.setIfInBounds_toArray, List.set_cons_zero, List.set_cons_succ]
    refine wpAnyH_take (i := 5) (v := ?_) rfl (by kernel_rfl) (by kernel_rfl) (by kernel_rfl) (fun _ _ _ h => h) (Or.inl ⟨by rfl, ?_⟩) hHeld ?_
    rotate_left
    · intro w hSw; have s0 := (hSw.cell (p := ⟨q, 0, none⟩) hq).trans x0; have s1 := (hSw.cell (p := ⟨q, 1, none⟩) hq).trans x1; have s2 := (hSw.cell (p := ⟨q, 2, none⟩) hq).trans y0; have s3 := (hSw.cell (p := ⟨q, 3, none⟩) hq).trans y1; go_simp; try with_reducible rfl
    try simp only [Act.put, List.getElem_toArray, List.getElem_cons_zero, List.getElem_cons_succ, List.setIfInBounds_toArray, List.set_cons_zero, List.set_cons_succ]
    refine wpAnyH_ready (rs := [6]) (by kernel_rfl) (by simp) (AllReadyH.cons rfl (fun K hK => ?_) AllReadyH.nil)
    go_simp
    refine (in_any 3 3 _ _ (fullT [a0, a1, a2, a3, a4, a5]) (fullT [b0, b1, b2, b3, b4, b5]) _ (dlaw.own_ints (cap := c) (lies.on_call hG hHeld)) (dlaw.own_ints (cap := c') (lies.on_call hG' hHeld)) (show 9 ≤ 1000000 by decide) (show 9 ≤ 1000000 by decide) (full_tops HTA.out) (full_tops HTB.out)).mono ?_
    rintro e u1 ⟨hB, r, f, rfl, hr⟩
    have HR := Lib.hid hr
    refine hK.out _ _ (hHeld.trans (hB.mono hHeld.size)) (fun hNew => ?_)
    clear hB hr
    clear hHeld hK K
    have hHeld := hNew
    clear hNew
    try simp only [Act.put, List.getElem_toArray, List.getElem_cons_zero, List.getElem_cons_succ, List.setIfInBounds_toArray, List.set_cons_zero, List.set_cons_succ]
    refine wpAnyH_take (i := 7) (v := ?_) rfl (by kernel_rfl) (by kernel_rfl) (by kernel_rfl) (fun _ _ _ h => h) (Or.inl ⟨by rfl, ?_⟩) hHeld ?_
    rotate_left
    · intro w hSw; skip; go_simp; try with_reducible rfl
    try simp only [Act.put, List.getElem_toArray, List.getElem_cons_zero, List.getElem_cons_succ, List.setIfInBounds_toArray, List.set_cons_zero, List.set_cons_succ]
    refine wpAnyH_take (i := 8) (v := ?_) rfl (by kernel_rfl) (by kernel_rfl) (by kernel_rfl) (fun _ _ _ h => h) (Or.inl ⟨by rfl, ?_⟩) hHeld ?_
    rotate_left
    · intro w hSw; skip; go_simp; try with_reducible rfl
    try simp only [Act.put, List.getElem_toArray, List.getElem_cons_zero, List.getElem_cons_succ, List.setIfInBounds_toArray, List.set_cons_zero, List.set_cons_succ]
    refine wpAnyH_take (i := 9) (v := ?_) rfl (by kernel_rfl) (by kernel_rfl) (by kernel_rfl) (fun _ _ _ h => h) (Or.inl ⟨by rfl, ?_⟩) hHeld ?_
    rotate_left
    · intro w hSw; skip; go_simp; try with_reducible rfl
    try simp only [Act.put, List.getElem_toArray, List.getElem_cons_zero, List.getElem_cons_succ, List.setIfInBounds_toArray, List.set_cons_zero, List.set_cons_succ]
    refine wpAnyH_take (i := 10) (v := ?_) rfl (by kernel_rfl) (by kernel_rfl) (by kernel_rfl) (fun _ _ _ h => h) (Or.inl ⟨by rfl, ?_⟩) hHeld ?_
    rotate_left
    · intro w hSw; skip; go_simp; try with_reducible rfl
    try simp only [Act.put, List.getElem_toArray, List.getElem_cons_zero, List.getElem_cons_succ, List.setIfInBounds_toArray, List.set_cons_zero, List.set_cons_succ]
    refine wpAnyH_done (by kernel_rfl) ?_ _
    have KZ := EB.trans (hHeld.mono EB.size)
    clear hHeld hG hG' x0 x1 y0 y1
    go_wp2_with fail
    refine bodyPost_ret (v := .tuple #[.bool r, .int .i64 f]) (by simp [results, Tryz.results10, go_sem]) rfl ⟨KZ, r, f, rfl, ?_⟩
    rcases HR.out with ⟨k, _⟩ | ⟨_, _, k, _⟩ | ⟨k1, k2, _, k3, k4⟩
    · exact (k ⟨HM.out.may, HN.out.may⟩).elim
    · exact (k rfl).elim
    · exact .inr ⟨HM.out, HN.out, k4, k3⟩
  · have HM := Lib.hid hm
    clear hm hM
    go_wp2_with fail
    exact bodyPost_ret (v := .tuple #[.bool false, .int .i64 8]) (by simp [results, Tryz.results10, go_sem]) rfl ⟨EB, false, 8, rfl, .inl ⟨HM.out, rfl, rfl⟩⟩

/-- what Has answers. -/
def HasR (z : List Int) (a b c d : Int) (r : Bool) (f : Int) : Prop := (¬ (MayZ z ∧ MayR a b ∧ MayR c d) ∧ r = false ∧ f = 8) ∨ (MayZ z ∧ MayR a b ∧ MayR c d ∧ f = 0 ∧ (r = true ↔ keptAll 3 (fullT z) [(0, 1), (a, b), (c, d)]))
def Hass (z : List Int) (a b c d : Int) (w : World) (e : Ending) (w' : World) : Prop := Below w.heap.size w w' ∧ ∃ (r : Bool) (f : Int), e = .returned (.tuple #[.bool r, .int .i64 f]) ∧ HasR z a b c d r f
def Fit (l : List Int) : Prop := ∀ x ∈ l, -9223372036854775808 ≤ x ∧ x ≤ 9223372036854775807
theorem rats_two {W : World} {g : Nat} {a b c d : Int} (h : lies.Lies W g 29 #[.int .i64 a, .int .i64 b, .int .i64 c, .int .i64 d]) : Rats W.heap.size W (.slice (some ⟨g, 0, none⟩) 2 2) [(a, b), (c, d)] :=
  .inr ⟨g, 0, 2, rfl, lies.lt h, fun k hk => by
    have hk : k < 2 := hk
    rcases (by omega : k = 0 ∨ k = 1) with rfl | rfl
    · exact ⟨lies.cell h 0, lies.cell h 1⟩
    · exact ⟨lies.cell h 2, lies.cell h 3⟩⟩
theorem ints_two {a b c d : Int} (h : Fit [a, b, c, d]) : IntsR [(a, b), (c, d)] := fun k hk => by
  have hk : k < 2 := hk
  rcases (by omega : k = 0 ∨ k = 1) with rfl | rfl
  · exact ⟨h a (by simp), h b (by simp)⟩
  · exact ⟨h c (by simp), h d (by simp)⟩
theorem may_two {a b c d : Int} : MayT [(a, b), (c, d)] ↔ MayR a b ∧ MayR c d := by
  constructor
  · intro h
    exact ⟨h 0 (show 0 < 2 by decide), h 1 (show 1 < 2 by decide)⟩
  · rintro ⟨h, k⟩ i hi
    have hi : i < 2 := hi
    rcases (by omega : i = 0 ∨ i = 1) with rfl | rfl
    · exact h
    · exact k
set_option maxRecDepth 100000 in
set_option maxHeartbeats 4000000 in
theorem has_any (z0 z1 z2 z3 z4 z5 a b c d : Int) (w : World) (hP : Pl w) (htop : Tops [z0, z1, z2, z3, z4, z5]) (hF : Fit [a, b, c, d]) :
    Calls Tryz.prog 8 #[.agg #[.int .i64 z0, .int .i64 z1, .int .i64 z2, .int .i64 z3, .int .i64 z4, .int .i64 z5], .agg #[.int .i64 a, .int .i64 b, .int .i64 c, .int .i64 d]] w (Hass [z0, z1, z2, z3, z4, z5] a b c d w) := by
  have DB := bound.up3 w (.cells #[.int .i64 z0, .int .i64 z1, .int .i64 z2, .int .i64 z3, .int .i64 z4, .int .i64 z5] 24) (.cells #[.int .i64 a, .int .i64 b, .int .i64 c, .int .i64 d] 31) (.cells #[.int .i64 z0, .int .i64 z1, .int .i64 z2, .int .i64 z3, .int .i64 z4, .int .i64 z5] 24)
  have D0 := lies.on_alloc (lies.made_at (w.alloc (.cells #[.int .i64 z0, .int .i64 z1, .int .i64 z2, .int .i64 z3, .int .i64 z4, .int .i64 z5] 24)) 31 #[.int .i64 a, .int .i64 b, .int .i64 c, .int .i64 d] (w.heap.size + 1) (by simp)) (.cells #[.int .i64 z0, .int .i64 z1, .int .i64 z2, .int .i64 z3, .int .i64 z4, .int .i64 z5] 24)
  have D1 := lies.made_at ((w.alloc (.cells #[.int .i64 z0, .int .i64 z1, .int .i64 z2, .int .i64 z3, .int .i64 z4, .int .i64 z5] 24)).alloc (.cells #[.int .i64 a, .int .i64 b, .int .i64 c, .int .i64 d] 31)) 24 #[.int .i64 z0, .int .i64 z1, .int .i64 z2, .int .i64 z3, .int .i64 z4, .int .i64 z5] (w.heap.size + 1 + 1) (by simp)
  have P0 := hP.on DB
  have HT := Lib.hid htop
  have HF := Lib.hid hF
  clear hP htop hF
  go_enter Tryz.func8, Tryz.ntmps8
  go_wp2_with fail
  generalize ((w.alloc (.cells #[.int .i64 z0, .int .i64 z1, .int .i64 z2, .int .i64 z3, .int .i64 z4, .int .i64 z5] 24)).alloc (.cells #[.int .i64 a, .int .i64 b, .int .i64 c, .int .i64 d] 31)).alloc (.cells #[.int .i64 z0, .int .i64 z1, .int .i64 z2, .int .i64 z3, .int .i64 z4, .int .i64 z5] 24) = w0 at DB D0 D1 P0 ⊢
  refine (matrices_any (w.heap.size + 1 + 1) 1 (fun _ => [z0, z1, z2, z3, z4, z5]) w0 P0 (row_z1 D1) (lies.lt D1) (by decide) (fun _ _ => rfl) (fun _ _ => HT.out)).mono ?_
  rintro e w1 ⟨hB, hM⟩
  have EB := later DB hB
  have E0 := lies.on_call D0 hB
  clear hB DB D1 P0 D0
  rcases mats_one hM with ⟨hm, q, cap, rfl, g, gc', _, _, hq, x0, x1, hG⟩ | ⟨hm, rfl⟩
  · have HM := Lib.hid hm
    clear hm hM
    go_wp2_with fail
    have p0 := lies.cell E0 0
    have p1 := lies.cell E0 1
    have p2 := lies.cell E0 2
    have p3 := lies.cell E0 3
    have pl := lies.lt E0
    generalize w.heap.size + 1 = PX at p0 p1 p2 p3 pl ⊢
    clear E0
    refine wp_region_held_drew (S := Below w1.heap.size w1) (by kernel_rfl) (dbm.drawn1 (Below.refl _ _)) (fun hHeld => ?_)
    refine wpAnyH_take (i := 0) (v := ?_) rfl (by kernel_rfl) (by kernel_rfl) (by kernel_rfl) (fun _ _ _ h => h) (Or.inl ⟨by rfl, ?_⟩) hHeld ?_
    rotate_left
    · intro w hSw; have s0 := (hSw.cell (p := ⟨q, 0, none⟩) hq).trans x0; have s1 := (hSw.cell (p := ⟨q, 1, none⟩) hq).trans x1; have t0 := (hSw.cell (p := ⟨PX, 0, none⟩) pl).trans p0; have t1 := (hSw.cell (p := ⟨PX, 1, none⟩) pl).trans p1; have t2 := (hSw.cell (p := ⟨PX, 2, none⟩) pl).trans p2; have t3 := (hSw.cell (p := ⟨PX, 3, none⟩) pl).trans p3; go_simp; try with_reducible rfl
    try simp only [Act.put, List.getElem_toArray, List.getElem_cons_zero, List.getElem_cons_succ, List.setIfInBounds_toArray, List.set_cons_zero, List.set_cons_succ]
    refine wpAnyH_take (i := 1) (v := ?_) rfl (by kernel_rfl) (by kernel_rfl) (by kernel_rfl) (fun _ _ _ h => h) (Or.inl ⟨by rfl, ?_⟩) hHeld ?_
    rotate_left
    · intro w hSw; have s0 := (hSw.cell (p := ⟨q, 0, none⟩) hq).trans x0; have s1 := (hSw.cell (p := ⟨q, 1, none⟩) hq).trans x1; have t0 := (hSw.cell (p := ⟨PX, 0, none⟩) pl).trans p0; have t1 := (hSw.cell (p := ⟨PX, 1, none⟩) pl).trans p1; have t2 := (hSw.cell (p := ⟨PX, 2, none⟩) pl).trans p2; have t3 := (hSw.cell (p := ⟨PX, 3, none⟩) pl).trans p3; go_simp; try with_reducible rfl
    try simp only [Act.put, List.getElem_toArray, List.getElem_cons_zero, List.getElem_cons_succ, List.setIfInBounds_toArray, List.set_cons_zero, List.set_cons_succ]
    refine wpAnyH_take (i := 2) (v := ?_) rfl (by kernel_rfl) (by kernel_rfl) (by kernel_rfl) (fun _ _ _ h => h) (Or.inl ⟨by rfl, ?_⟩) hHeld ?_
    rotate_left
    · intro w hSw; have s0 := (hSw.cell (p := ⟨q, 0, none⟩) hq).trans x0; have s1 := (hSw.cell (p := ⟨q, 1, none⟩) hq).trans x1; have t0 := (hSw.cell (p := ⟨PX, 0, none⟩) pl).trans p0; have t1 := (hSw.cell (p := ⟨PX, 1, none⟩) pl).trans p1; have t2 := (hSw.cell (p := ⟨PX, 2, none⟩) pl).trans p2; have t3 := (hSw.cell (p := ⟨PX, 3, none⟩) pl).trans p3; go_simp; try with_reducible rfl
    try simp only [Act.put, List.getElem_toArray, List.getElem_cons_zero, List.getElem_cons_succ, List.setIfInBounds_toArray, List.set_cons_zero, List.set_cons_succ]
    refine wpAnyH_take (i := 3) (v := ?_) rfl (by kernel_rfl) (by kernel_rfl) (by kernel_rfl) (fun _ _ _ h => h) (Or.inl ⟨by rfl, ?_⟩) hHeld ?_
    rotate_left
    · intro w hSw; have s0 := (hSw.cell (p := ⟨q, 0, none⟩) hq).trans x0; have s1 := (hSw.cell (p := ⟨q, 1, none⟩) hq).trans x1; have t0 := (hSw.cell (p := ⟨PX, 0, none⟩) pl).trans p0; have t1 := (hSw.cell (p := ⟨PX, 1, none⟩) pl).trans p1; have t2 := (hSw.cell (p := ⟨PX, 2, none⟩) pl).trans p2; have t3 := (hSw.cell (p := ⟨PX, 3, none⟩) pl).trans p3; go_simp; try with_reducible rfl
    try simp only [Act.put, List.getElem_toArray, List.getElem_cons_zero, List.getElem_cons_succ, List.setIfInBounds_toArray, List.set_cons_zero, List.set_cons_succ]
    refine wpAnyH_take (i := 4) (v := ?_) rfl (by kernel_rfl) (by kernel_rfl) (by kernel_rfl) (fun _ _ _ h => h) (Or.inl ⟨by rfl, ?_⟩) hHeld ?_
    rotate_left
    · intro w hSw; have s0 := (hSw.cell (p := ⟨q, 0, none⟩) hq).trans x0; have s1 := (hSw.cell (p := ⟨q, 1, none⟩) hq).trans x1; have t0 := (hSw.cell (p := ⟨PX, 0, none⟩) pl).trans p0; have t1 := (hSw.cell (p := ⟨PX, 1, none⟩) pl).trans p1; have t2 := (hSw.cell (p := ⟨PX, 2, none⟩) pl).trans p2; have t3 := (hSw.cell (p := ⟨PX, 3, none⟩) pl).trans p3; go_simp; try with_reducible rfl
    try simp only [Act.put, List.getElem_toArray, List.getElem_cons_zero, List.getElem_cons_succ, List.setIfInBounds_toArray, List.set_cons_zero, List.set_cons_succ]
    refine wpAnyH_take (i := 5) (v := ?_) rfl (by kernel_rfl) (by kernel_rfl) (by kernel_rfl) (fun _ _ _ h => h) (Or.inl ⟨by rfl, ?_⟩) hHeld ?_
    rotate_left
    · intro w hSw; have s0 := (hSw.cell (p := ⟨q, 0, none⟩) hq).trans x0; have s1 := (hSw.cell (p := ⟨q, 1, none⟩) hq).trans x1; have t0 := (hSw.cell (p := ⟨PX, 0, none⟩) pl).trans p0; have t1 := (hSw.cell (p := ⟨PX, 1, none⟩) pl).trans p1; have t2 := (hSw.cell (p := ⟨PX, 2, none⟩) pl).trans p2; have t3 := (hSw.cell (p := ⟨PX, 3, none⟩) pl).trans p3; go_simp; try with_reducible rfl
    try simp only [Act.put, List.getElem_toArray, List.getElem_cons_zero, List.getElem_cons_succ, List.setIfInBounds_toArray, List.set_cons_zero, List.set_cons_succ]
    refine wpAnyH_take (i := 6) (v := ?_) rfl (by kernel_rfl) (by kernel_rfl) (by kernel_rfl) (fun _ _ _ h => h) (Or.inl ⟨by rfl, ?_⟩) hHeld ?_
    rotate_left
    · intro w hSw; have s0 := (hSw.cell (p := ⟨q, 0, none⟩) hq).trans x0; have s1 := (hSw.cell (p := ⟨q, 1, none⟩) hq).trans x1; have t0 := (hSw.cell (p := ⟨PX, 0, none⟩) pl).trans p0; have t1 := (hSw.cell (p := ⟨PX, 1, none⟩) pl).trans p1; have t2 := (hSw.cell (p := ⟨PX, 2, none⟩) pl).trans p2; have t3 := (hSw.cell (p := ⟨PX, 3, none⟩) pl).trans p3; go_simp; try with_reducible rfl
    try simp only [Act.put, List.getElem_toArray, List.getElem_cons_zero, List.getElem_cons_succ, List.setIfInBounds_toArray, List.set_cons_zero, List.set_cons_succ]
    refine wpAnyH_ready (rs := [7]) (by kernel_rfl) (by simp) (AllReadyH.cons rfl (fun K hK => ?_) AllReadyH.nil)
    go_simp
    have R := lies.made w1.drew 29 #[.int .i64 a, .int .i64 b, .int .i64 c, .int .i64 d]
    refine hK.out _ _ (hHeld.trans ((bound.up1 w1.drew (.cells #[.int .i64 a, .int .i64 b, .int .i64 c, .int .i64 d] 29)).mono hHeld.size)) (fun hNew => ?_)
    clear hHeld hK K
    have hHeld := hNew
    clear hNew
    try simp only [Act.put, List.getElem_toArray, List.getElem_cons_zero, List.getElem_cons_succ, List.setIfInBounds_toArray, List.set_cons_zero, List.set_cons_succ]
    refine wpAnyH_ready (rs := [8]) (by kernel_rfl) (by simp) (AllReadyH.cons rfl (fun K hK => ?_) AllReadyH.nil)
    go_simp
    refine (dkeeps_any 3 _ _ (fullT [z0, z1, z2, z3, z4, z5]) [(a, b), (c, d)] _ (dlaw.own_ints (cap := gc') (lies.on_call hG hHeld)) (show 9 ≤ 1000000 by decide) (full_tops HT.out) (rats_two R) (ints_two HF.out) (show 2 ≤ 100000 by decide)).mono ?_
    rintro e u1 ⟨hB, r, f, rfl, hr⟩
    have HR := Lib.hid hr
    refine hK.out _ _ (hHeld.trans (hB.mono hHeld.size)) (fun hNew => ?_)
    clear hB hr R
    clear hHeld hK K
    have hHeld := hNew
    clear hNew
    try simp only [Act.put, List.getElem_toArray, List.getElem_cons_zero, List.getElem_cons_succ, List.setIfInBounds_toArray, List.set_cons_zero, List.set_cons_succ]
    refine wpAnyH_take (i := 9) (v := ?_) rfl (by kernel_rfl) (by kernel_rfl) (by kernel_rfl) (fun _ _ _ h => h) (Or.inl ⟨by rfl, ?_⟩) hHeld ?_
    rotate_left
    · intro w hSw; skip; go_simp; try with_reducible rfl
    try simp only [Act.put, List.getElem_toArray, List.getElem_cons_zero, List.getElem_cons_succ, List.setIfInBounds_toArray, List.set_cons_zero, List.set_cons_succ]
    refine wpAnyH_take (i := 10) (v := ?_) rfl (by kernel_rfl) (by kernel_rfl) (by kernel_rfl) (fun _ _ _ h => h) (Or.inl ⟨by rfl, ?_⟩) hHeld ?_
    rotate_left
    · intro w hSw; skip; go_simp; try with_reducible rfl
    try simp only [Act.put, List.getElem_toArray, List.getElem_cons_zero, List.getElem_cons_succ, List.setIfInBounds_toArray, List.set_cons_zero, List.set_cons_succ]
    refine wpAnyH_take (i := 11) (v := ?_) rfl (by kernel_rfl) (by kernel_rfl) (by kernel_rfl) (fun _ _ _ h => h) (Or.inl ⟨by rfl, ?_⟩) hHeld ?_
    rotate_left
    · intro w hSw; skip; go_simp; try with_reducible rfl
    try simp only [Act.put, List.getElem_toArray, List.getElem_cons_zero, List.getElem_cons_succ, List.setIfInBounds_toArray, List.set_cons_zero, List.set_cons_succ]
    refine wpAnyH_take (i := 12) (v := ?_) rfl (by kernel_rfl) (by kernel_rfl) (by kernel_rfl) (fun _ _ _ h => h) (Or.inl ⟨by rfl, ?_⟩) hHeld ?_
    rotate_left
    · intro w hSw; skip; go_simp; try with_reducible rfl
    try simp only [Act.put, List.getElem_toArray, List.getElem_cons_zero, List.getElem_cons_succ, List.setIfInBounds_toArray, List.set_cons_zero, List.set_cons_succ]
    refine wpAnyH_done (by kernel_rfl) ?_ _
    have KZ := EB.trans (hHeld.mono EB.size)
    clear hHeld hG x0 x1 p0 p1 p2 p3
    go_wp2_with fail
    refine bodyPost_ret (v := .tuple #[.bool r, .int .i64 f]) (by simp [results, Tryz.results8, go_sem]) rfl ⟨KZ, r, f, rfl, ?_⟩
    rcases HR.out with ⟨k1, k2, k3⟩ | ⟨_, _, _, _, k⟩ | ⟨k1, k2, k3, _, k4⟩
    · exact .inl ⟨fun h => k3 ⟨HM.out.may, may_two.2 h.2⟩, k2, k1⟩
    · exact (k (show ((2 : Nat) : Int) = 3 - 1 by decide)).elim
    · exact .inr ⟨HM.out, (may_two.1 k3).1, (may_two.1 k3).2, k1, k4⟩
  · have HM := Lib.hid hm
    clear hm hM
    go_wp2_with fail
    exact bodyPost_ret (v := .tuple #[.bool false, .int .i64 8]) (by simp [results, Tryz.results8, go_sem]) rfl ⟨EB, false, 8, rfl, .inl ⟨fun h => HM.out h.1, rfl, rfl⟩⟩
end Go.Proofs.YtklejbheieceeaaGreatDoor.zone
