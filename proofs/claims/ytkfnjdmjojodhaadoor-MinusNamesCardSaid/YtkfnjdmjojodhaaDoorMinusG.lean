/-
  What law 11's count answers; each theorem names its conditions.
-/
import Derived.Test.YtkfnjdmjojodhaaDoorMinusF
namespace Go.Proofs.YtkfnjdmjojodhaaDoor.mlaw
open Go.Joins Go.ChangeShapes Go.WideShapes Go.ChangeAt Go.RowKit num rat dbm Go.Proofs.YtkfnjdmjojodhaaDoor.tight Go.Proofs.YtkfnjdmjojodhaaDoor.incl Go.Proofs.YtkfnjdmjojodhaaDoor.plaw Go.Proofs.YtkfnjdmjojodhaaDoor.zopen Go.Proofs.YtkfnjdmjojodhaaDoor.zone Go.Proofs.YtkfnjdmjojodhaaDoor.win Go.Proofs.YtkfnjdmjojodhaaDoor.minus Go.Proofs.YtkfnjdmjojodhaaDoor.mz
open bound hiding up
set_option linter.unusedVariables false
set_option linter.unusedSimpArgs false

/-- the zone at a place of a row, as six letters. -/
theorem zs_six {n₀ : Nat} {W : World} {a : Option Addr} {len cap : Nat} {zs : List (List Int)} (h : Zs n₀ W (.slice a len cap) zs) {k : Nat} (hk : k < zs.length) (h6 : (zat zs k).length = 6) :
    ∃ b off, ∃ z0 z1 z2 z3 z4 z5 : Int, a = some ⟨b, off, none⟩ ∧ b < n₀ ∧ zat zs k = [z0, z1, z2, z3, z4, z5] := by
  obtain ⟨b, off, e, _, hb, _⟩ := zs_at h hk
  obtain ⟨z0, z1, z2, z3, z4, z5, q⟩ := six h6
  exact ⟨b, off, z0, z1, z2, z3, z4, z5, e, hb, q⟩
/-- its cells. -/
theorem zs_cells {n₀ : Nat} {W : World} {b off len cap : Nat} {zs : List (List Int)} {z0 z1 z2 z3 z4 z5 : Int} (h : Zs n₀ W (.slice (some ⟨b, off, none⟩) len cap) zs) {k : Nat} (hk : k < zs.length) (e : zat zs k = [z0, z1, z2, z3, z4, z5]) :
    W.cell? ⟨b, off + k * 6, none⟩ = some (.int .i64 z0) ∧ W.cell? ⟨b, off + k * 6 + 1, none⟩ = some (.int .i64 z1) ∧ W.cell? ⟨b, off + k * 6 + 2, none⟩ = some (.int .i64 z2) ∧ W.cell? ⟨b, off + k * 6 + 3, none⟩ = some (.int .i64 z3) ∧ W.cell? ⟨b, off + k * 6 + 4, none⟩ = some (.int .i64 z4) ∧ W.cell? ⟨b, off + k * 6 + 5, none⟩ = some (.int .i64 z5) := by
  obtain ⟨b', off', e', _, _, c0, c1, c2, c3, c4, c5⟩ := zs_at h hk
  cases e'
  rw [e] at c0 c1 c2 c3 c4 c5
  exact ⟨c0, c1, c2, c3, c4, c5⟩
theorem cnt_take {zs : List (List Int)} {pa pb pc pd : Int} {k : Nat} (h : k < zs.length) : cnt (zs.take (k + 1)) pa pb pc pd = cnt (zs.take k) pa pb pc pd + if hasB (zat zs k) pa pb pc pd = true then 1 else 0 := by
  rw [List.take_add_one, List.getElem?_eq_getElem h]
  show cnt (zs.take k ++ [zs[k]]) pa pb pc pd = _
  rw [cnt_app, cnt_one]
  unfold zat
  rw [List.getElem?_eq_getElem h]
  rfl
theorem cnt_le (zs : List (List Int)) (pa pb pc pd : Int) : cnt zs pa pb pc pd ≤ zs.length := List.countP_le_length
set_option maxRecDepth 100000 in
set_option maxHeartbeats 8000000 in
theorem count_is (ao : Option Addr) (len cap : Nat) (zs : List (List Int)) (pa pb pc pd : Int) (w : World) (hP : Pl w) (hI : Zs w.heap.size w (.slice ao len cap) zs) (hl : zs.length = len) (hm : len ≤ 1000000) (hz : ∀ z, z ∈ zs → Zo z) (m1 : MayR pa pb) (m2 : MayR pc pd) (hF : Fit [pa, pb, pc, pd]) :
    Calls Tryd.prog 16 #[.slice ao len cap, .agg #[.int .i64 pa, .int .i64 pb, .int .i64 pc, .int .i64 pd]] w fun e w' => e = .returned (.tuple #[.int .i64 (cnt zs pa pb pc pd : Nat), .bool true]) ∧ Below w.heap.size w w' := by
  have D0 := lies.made w 42 #[.int .i64 pa, .int .i64 pb, .int .i64 pc, .int .i64 pd]
  have DB := bound.up1 w (.cells #[.int .i64 pa, .int .i64 pb, .int .i64 pc, .int .i64 pd] 42)
  have P0 := hP.on DB
  have HI := Lib.hid hI
  have HZ := Lib.hid hz
  have HL := Lib.hid hl
  have HM1 := Lib.hid m1
  have HM2 := Lib.hid m2
  have HF := Lib.hid hF
  clear hP hI hz hl m1 m2 hF
  go_enter Tryd.func16, Tryd.ntmps16
  go_wp2_with fail
  generalize w.alloc (.cells #[.int .i64 pa, .int .i64 pb, .int .i64 pc, .int .i64 pd] 42) = w0 at D0 DB P0 ⊢
  go_loopw [7, 6] (fun i n wr => ∃ k : Nat, k ≤ len ∧ i = .int .i64 k ∧ n = .int .i64 (cnt (zs.take k) pa pb pc pd : Nat) ∧ lies.Lies wr w.heap.size 42 #[.int .i64 pa, .int .i64 pb, .int .i64 pc, .int .i64 pd] ∧ Below w.heap.size w wr ∧ Pl wr) (fun i _ _ => len - (intOf i).toNat)
  case atStart => exact ⟨0, Nat.zero_le _, rfl, rfl, D0, DB, P0⟩
  case round =>
    clear D0 DB P0
    obtain ⟨k, hk, rfl, rfl, D0, DB, P0⟩ := hrel
    by_cases hkn : k < len
    · have hkz : k < zs.length := by rw [HL.out]; exact hkn
      have hzk := HZ.out _ (zat_mem hkz)
      obtain ⟨bq, off, z0, z1, z2, z3, z4, z5, rfl, hb, ez⟩ := zs_six (HI.out.below DB) hkz hzk.2.2
      have hbr : bq < wr.heap.size := Nat.lt_of_lt_of_le hb DB.size
      have hcl := cnt_le (zs.take k) pa pb pc pd
      have hcu := cnt_take (pa := pa) (pb := pb) (pc := pc) (pd := pd) hkz
      rw [List.length_take] at hcl
      rw [ez] at hzk hcu
      have hcl : cnt (zs.take k) pa pb pc pd ≤ 1000000 := by omega
      have HCU := Lib.hid hcu
      have HEZ := Lib.hid ez
      have HZK := Lib.hid hzk
      have HKZ := Lib.hid hkz
      have HB := Lib.hid hb
      clear hcu ez hzk hkz hb
      generalize hcn : cnt (zs.take k) pa pb pc pd = cn at hcl HCU ⊢
      clear hcn
      go_wp2_with fail
      refine wp_region_held_drew (S := Below wr.heap.size wr) (by kernel_rfl) (dbm.drawn1 (Below.refl _ _)) (fun hHeld => ?_)
      refine wpAnyH_take (i := 0) (v := ?_) rfl (by kernel_rfl) (by kernel_rfl) (by kernel_rfl) (fun _ _ _ h => h) (Or.inl ⟨by rfl, ?_⟩) hHeld ?_
      rotate_left
      · intro w hSw; obtain ⟨c0, c1, c2, c3, c4, c5⟩ := zs_cells (HI.out.below (later DB hSw)) HKZ.out HEZ.out; obtain ⟨⟨x0, x1, x2, x3⟩, _⟩ := four_cells (lies.on_call D0 hSw); go_simp; try with_reducible rfl
      try simp only [Act.put, List.getElem_toArray, List.getElem_cons_zero, List.getElem_cons_succ, List.setIfInBounds_toArray, List.set_cons_zero, List.set_cons_succ]
      refine wpAnyH_take (i := 1) (v := ?_) rfl (by kernel_rfl) (by kernel_rfl) (by kernel_rfl) (fun _ _ _ h => h) (Or.inl ⟨by rfl, ?_⟩) hHeld ?_
      rotate_left
      · intro w hSw; obtain ⟨c0, c1, c2, c3, c4, c5⟩ := zs_cells (HI.out.below (later DB hSw)) HKZ.out HEZ.out; obtain ⟨⟨x0, x1, x2, x3⟩, _⟩ := four_cells (lies.on_call D0 hSw); go_simp; try with_reducible rfl
      try simp only [Act.put, List.getElem_toArray, List.getElem_cons_zero, List.getElem_cons_succ, List.setIfInBounds_toArray, List.set_cons_zero, List.set_cons_succ]
      refine wpAnyH_take (i := 2) (v := ?_) rfl (by kernel_rfl) (by kernel_rfl) (by kernel_rfl) (fun _ _ _ h => h) (Or.inl ⟨by rfl, ?_⟩) hHeld ?_
      rotate_left
      · intro w hSw; obtain ⟨c0, c1, c2, c3, c4, c5⟩ := zs_cells (HI.out.below (later DB hSw)) HKZ.out HEZ.out; obtain ⟨⟨x0, x1, x2, x3⟩, _⟩ := four_cells (lies.on_call D0 hSw); go_simp; try with_reducible rfl
      try simp only [Act.put, List.getElem_toArray, List.getElem_cons_zero, List.getElem_cons_succ, List.setIfInBounds_toArray, List.set_cons_zero, List.set_cons_succ]
      refine wpAnyH_take (i := 3) (v := ?_) rfl (by kernel_rfl) (by kernel_rfl) (by kernel_rfl) (fun _ _ _ h => h) (Or.inl ⟨by rfl, ?_⟩) hHeld ?_
      rotate_left
      · intro w hSw; obtain ⟨c0, c1, c2, c3, c4, c5⟩ := zs_cells (HI.out.below (later DB hSw)) HKZ.out HEZ.out; obtain ⟨⟨x0, x1, x2, x3⟩, _⟩ := four_cells (lies.on_call D0 hSw); go_simp; try with_reducible rfl
      try simp only [Act.put, List.getElem_toArray, List.getElem_cons_zero, List.getElem_cons_succ, List.setIfInBounds_toArray, List.set_cons_zero, List.set_cons_succ]
      refine wpAnyH_take (i := 4) (v := ?_) rfl (by kernel_rfl) (by kernel_rfl) (by kernel_rfl) (fun _ _ _ h => h) (Or.inl ⟨by rfl, ?_⟩) hHeld ?_
      rotate_left
      · intro w hSw; obtain ⟨c0, c1, c2, c3, c4, c5⟩ := zs_cells (HI.out.below (later DB hSw)) HKZ.out HEZ.out; obtain ⟨⟨x0, x1, x2, x3⟩, _⟩ := four_cells (lies.on_call D0 hSw); go_simp; try with_reducible rfl
      try simp only [Act.put, List.getElem_toArray, List.getElem_cons_zero, List.getElem_cons_succ, List.setIfInBounds_toArray, List.set_cons_zero, List.set_cons_succ]
      refine wpAnyH_ready (rs := [5]) (by kernel_rfl) (by simp) (AllReadyH.cons rfl (fun K hK => ?_) AllReadyH.nil)
      go_simp
      refine (has_any z0 z1 z2 z3 z4 z5 pa pb pc pd _ (P0.on hHeld) HZK.out.2.1 HF.out).mono ?_
      rintro e u1 ⟨hB, it, f, rfl, hR⟩
      obtain ⟨rfl, hit⟩ : f = 0 ∧ it = hasB [z0, z1, z2, z3, z4, z5] pa pb pc pd := by
        rcases hR with ⟨n, _⟩ | ⟨_, _, _, e, r⟩
        · exact (n ⟨HZK.out.1, HM1.out, HM2.out⟩).elim
        · exact ⟨e, by rw [Bool.eq_iff_iff, r, has_kept HM1.out HM2.out]⟩
      have HIT := Lib.hid hit
      clear hR hit
      refine hK.out _ _ (hHeld.trans (hB.mono hHeld.size)) (fun hNew => ?_)
      clear hB
      clear hHeld hK K
      have hHeld := hNew
      clear hNew
      try simp only [Act.put, List.getElem_toArray, List.getElem_cons_zero, List.getElem_cons_succ, List.setIfInBounds_toArray, List.set_cons_zero, List.set_cons_succ]
      refine wpAnyH_take (i := 6) (v := ?_) rfl (by kernel_rfl) (by kernel_rfl) (by kernel_rfl) (fun _ _ _ h => h) (Or.inl ⟨by rfl, ?_⟩) hHeld ?_
      rotate_left
      · intro w hSw; skip; go_simp; try with_reducible rfl
      try simp only [Act.put, List.getElem_toArray, List.getElem_cons_zero, List.getElem_cons_succ, List.setIfInBounds_toArray, List.set_cons_zero, List.set_cons_succ]
      refine wpAnyH_take (i := 7) (v := ?_) rfl (by kernel_rfl) (by kernel_rfl) (by kernel_rfl) (fun _ _ _ h => h) (Or.inl ⟨by rfl, ?_⟩) hHeld ?_
      rotate_left
      · intro w hSw; skip; go_simp; try with_reducible rfl
      try simp only [Act.put, List.getElem_toArray, List.getElem_cons_zero, List.getElem_cons_succ, List.setIfInBounds_toArray, List.set_cons_zero, List.set_cons_succ]
      refine wpAnyH_take (i := 8) (v := ?_) rfl (by kernel_rfl) (by kernel_rfl) (by kernel_rfl) (fun _ _ _ h => h) (Or.inl ⟨by rfl, ?_⟩) hHeld ?_
      rotate_left
      · intro w hSw; skip; go_simp; try with_reducible rfl
      try simp only [Act.put, List.getElem_toArray, List.getElem_cons_zero, List.getElem_cons_succ, List.setIfInBounds_toArray, List.set_cons_zero, List.set_cons_succ]
      refine wpAnyH_take (i := 9) (v := ?_) rfl (by kernel_rfl) (by kernel_rfl) (by kernel_rfl) (fun _ _ _ h => h) (Or.inl ⟨by rfl, ?_⟩) hHeld ?_
      rotate_left
      · intro w hSw; skip; go_simp; try with_reducible rfl
      try simp only [Act.put, List.getElem_toArray, List.getElem_cons_zero, List.getElem_cons_succ, List.setIfInBounds_toArray, List.set_cons_zero, List.set_cons_succ]
      refine wpAnyH_take (i := 10) (v := ?_) rfl (by kernel_rfl) (by kernel_rfl) (by kernel_rfl) (fun _ _ _ h => h) (Or.inl ⟨by rfl, ?_⟩) hHeld ?_
      rotate_left
      · intro w hSw; skip; go_simp; try with_reducible rfl
      try simp only [Act.put, List.getElem_toArray, List.getElem_cons_zero, List.getElem_cons_succ, List.setIfInBounds_toArray, List.set_cons_zero, List.set_cons_succ]
      refine wpAnyH_done (by kernel_rfl) ?_ _
      replace D0 := lies.on_call D0 hHeld
      replace DB := later DB hHeld
      replace P0 := P0.on hHeld
      clear hHeld
      cases it with
      | true =>
        go_wp2_with fail
        go_roundw
        case rel => exact ⟨k + 1, by omega, by go_num, by rw [HCU.out, ← HIT.out, if_pos rfl]; go_num, D0, DB, P0⟩
        case measure => simp [intOf]; omega
      | false =>
        go_wp2_with fail
        go_roundw
        case rel => exact ⟨k + 1, by omega, by go_num, by rw [HCU.out, ← HIT.out, if_neg (by decide)]; rfl, D0, DB, P0⟩
        case measure => simp [intOf]; omega
    · obtain rfl : len = k := by omega
      have e : zs.take len = zs := by rw [← HL.out]; exact List.take_length
      rw [e]
      clear e
      go_wp2_with fail
      exact bodyPost_ret (v := .tuple #[.int .i64 (cnt zs pa pb pc pd : Nat), .bool true]) (by simp [results, Tryd.results16, go_sem]) rfl ⟨rfl, DB⟩
theorem restP_len : ∀ (bs : List (List Int)) (c r : List (List Int)), (∀ b, b ∈ bs → Zo b) → (∀ z, z ∈ c → Zo z) → c.length ≤ 4096 → RestP bs c r 0 → r.length ≤ 4096 := by
  intro bs
  induction bs with
  | nil => intro c r _ _ hc q; rw [q.1]; exact hc
  | cons b bs ih =>
    intro c r hb hz hc q
    obtain ⟨n, e, hn, q⟩ := q
    rcases q with ⟨p1, _, p3⟩ | ⟨p1, p2⟩
    · exact (p1 p3.symm).elim
    · subst p1
      have zb := hb b List.mem_cons_self
      obtain ⟨g1, g2⟩ := stepP_ok zb.2.1 zb.1 c hz (Nat.zero_le _) hn
      exact ih n r (fun x hx => hb x (List.mem_cons_of_mem _ hx)) (step_zo zb.2.1 zb.1 c hz (fun x hx => by cases hx) g1) g2 p2
set_option maxRecDepth 100000 in
set_option maxHeartbeats 8000000 in
/-- two rows that hold the same zones. -/
theorem same_yes (ao bo : Option Addr) (len cap cap' : Nat) (zs : List (List Int)) (w : World) (hI : Zs w.heap.size w (.slice ao len cap) zs) (hJ : Zs w.heap.size w (.slice bo len cap') zs) (hl : zs.length = len) (hm : len ≤ 1000000) (h6 : ∀ z, z ∈ zs → z.length = 6) :
    Calls Tryd.prog 14 #[.slice ao len cap, .slice bo len cap'] w fun e w' => e = .returned (.bool true) ∧ Below w.heap.size w w' := by
  have DB := Below.refl w.heap.size w
  have HI := Lib.hid hI
  have HJ := Lib.hid hJ
  have HL := Lib.hid hl
  have H6 := Lib.hid h6
  clear hI hJ hl h6
  go_enter Tryd.func14, Tryd.ntmps14
  go_wp2_with fail
  go_loopw [5] (fun i wr => ∃ k : Nat, k ≤ len ∧ i = .int .i64 k ∧ Below w.heap.size w wr) (fun i _ => len - (intOf i).toNat)
  case atStart => exact ⟨0, Nat.zero_le _, rfl, DB⟩
  case round =>
    clear DB
    obtain ⟨k, hk, rfl, DB⟩ := hrel
    by_cases hkn : k < len
    · have hkz : k < zs.length := by rw [HL.out]; exact hkn
      have hz6 := H6.out _ (zat_mem hkz)
      obtain ⟨bq, off, z0, z1, z2, z3, z4, z5, rfl, hb, ez⟩ := zs_six (HI.out.below DB) hkz hz6
      obtain ⟨br, off', _, _, _, _, _, _, rfl, hb', _⟩ := zs_six (HJ.out.below DB) hkz hz6
      have hbr : bq < wr.heap.size := Nat.lt_of_lt_of_le hb DB.size
      have hbr' : br < wr.heap.size := Nat.lt_of_lt_of_le hb' DB.size
      have HEZ := Lib.hid ez
      have HKZ := Lib.hid hkz
      clear ez hkz hb hb' hz6
      have hq1 : ∀ W, (Op.equalIn 10000 24 (.agg #[.int .i64 z0, .int .i64 z1, .int .i64 z2, .int .i64 z3, .int .i64 z4, .int .i64 z5]) (.agg #[.int .i64 z0, .int .i64 z1, .int .i64 z2, .int .i64 z3, .int .i64 z4, .int .i64 z5])).run Tryd.prog W = .ok true W := fun W => by rw [eq_zone]; simp
      go_wp2_with fail
      refine wp_region_held_drew (S := Below wr.heap.size wr) (by kernel_rfl) (dbm.drawn1 (Below.refl _ _)) (fun hHeld => ?_)
      refine wpAnyH_take (i := 0) (v := ?_) rfl (by kernel_rfl) (by kernel_rfl) (by kernel_rfl) (fun _ _ _ h => h) (Or.inl ⟨by rfl, ?_⟩) hHeld ?_
      rotate_left
      · intro w hSw; obtain ⟨c0, c1, c2, c3, c4, c5⟩ := zs_cells (HI.out.below (later DB hSw)) HKZ.out HEZ.out; obtain ⟨d0, d1, d2, d3, d4, d5⟩ := zs_cells (HJ.out.below (later DB hSw)) HKZ.out HEZ.out; go_simp; try with_reducible rfl
      try simp only [Act.put, List.getElem_toArray, List.getElem_cons_zero, List.getElem_cons_succ, List.setIfInBounds_toArray, List.set_cons_zero, List.set_cons_succ]
      refine wpAnyH_take (i := 1) (v := ?_) rfl (by kernel_rfl) (by kernel_rfl) (by kernel_rfl) (fun _ _ _ h => h) (Or.inl ⟨by rfl, ?_⟩) hHeld ?_
      rotate_left
      · intro w hSw; obtain ⟨c0, c1, c2, c3, c4, c5⟩ := zs_cells (HI.out.below (later DB hSw)) HKZ.out HEZ.out; obtain ⟨d0, d1, d2, d3, d4, d5⟩ := zs_cells (HJ.out.below (later DB hSw)) HKZ.out HEZ.out; go_simp; try with_reducible rfl
      try simp only [Act.put, List.getElem_toArray, List.getElem_cons_zero, List.getElem_cons_succ, List.setIfInBounds_toArray, List.set_cons_zero, List.set_cons_succ]
      refine wpAnyH_take (i := 2) (v := ?_) rfl (by kernel_rfl) (by kernel_rfl) (by kernel_rfl) (fun _ _ _ h => h) (Or.inl ⟨by rfl, ?_⟩) hHeld ?_
      rotate_left
      · intro w hSw; obtain ⟨c0, c1, c2, c3, c4, c5⟩ := zs_cells (HI.out.below (later DB hSw)) HKZ.out HEZ.out; obtain ⟨d0, d1, d2, d3, d4, d5⟩ := zs_cells (HJ.out.below (later DB hSw)) HKZ.out HEZ.out; go_simp; try with_reducible rfl
      try simp only [Act.put, List.getElem_toArray, List.getElem_cons_zero, List.getElem_cons_succ, List.setIfInBounds_toArray, List.set_cons_zero, List.set_cons_succ]
      refine wpAnyH_take (i := 3) (v := ?_) rfl (by kernel_rfl) (by kernel_rfl) (by kernel_rfl) (fun _ _ _ h => h) (Or.inl ⟨by rfl, ?_⟩) hHeld ?_
      rotate_left
      · intro w hSw; obtain ⟨c0, c1, c2, c3, c4, c5⟩ := zs_cells (HI.out.below (later DB hSw)) HKZ.out HEZ.out; obtain ⟨d0, d1, d2, d3, d4, d5⟩ := zs_cells (HJ.out.below (later DB hSw)) HKZ.out HEZ.out; go_simp; try with_reducible rfl
      try simp only [Act.put, List.getElem_toArray, List.getElem_cons_zero, List.getElem_cons_succ, List.setIfInBounds_toArray, List.set_cons_zero, List.set_cons_succ]
      refine wpAnyH_take (i := 4) (v := ?_) rfl (by kernel_rfl) (by kernel_rfl) (by kernel_rfl) (fun _ _ _ h => h) (Or.inl ⟨by rfl, ?_⟩) hHeld ?_
      rotate_left
      · intro w hSw; obtain ⟨c0, c1, c2, c3, c4, c5⟩ := zs_cells (HI.out.below (later DB hSw)) HKZ.out HEZ.out; obtain ⟨d0, d1, d2, d3, d4, d5⟩ := zs_cells (HJ.out.below (later DB hSw)) HKZ.out HEZ.out; go_simp; try with_reducible rfl
      try simp only [Act.put, List.getElem_toArray, List.getElem_cons_zero, List.getElem_cons_succ, List.setIfInBounds_toArray, List.set_cons_zero, List.set_cons_succ]
      refine wpAnyH_take (i := 5) (v := ?_) rfl (by kernel_rfl) (by kernel_rfl) (by kernel_rfl) (fun _ _ _ h => h) (Or.inl ⟨by rfl, ?_⟩) hHeld ?_
      rotate_left
      · intro w hSw; obtain ⟨c0, c1, c2, c3, c4, c5⟩ := zs_cells (HI.out.below (later DB hSw)) HKZ.out HEZ.out; obtain ⟨d0, d1, d2, d3, d4, d5⟩ := zs_cells (HJ.out.below (later DB hSw)) HKZ.out HEZ.out; go_simp; try with_reducible rfl
      try simp only [Act.put, List.getElem_toArray, List.getElem_cons_zero, List.getElem_cons_succ, List.setIfInBounds_toArray, List.set_cons_zero, List.set_cons_succ]
      refine wpAnyH_take (i := 6) (v := ?_) rfl (by kernel_rfl) (by kernel_rfl) (by kernel_rfl) (fun _ _ _ h => h) (Or.inl ⟨by rfl, ?_⟩) hHeld ?_
      rotate_left
      · intro w hSw; obtain ⟨c0, c1, c2, c3, c4, c5⟩ := zs_cells (HI.out.below (later DB hSw)) HKZ.out HEZ.out; obtain ⟨d0, d1, d2, d3, d4, d5⟩ := zs_cells (HJ.out.below (later DB hSw)) HKZ.out HEZ.out; go_simp; try with_reducible rfl
      try simp only [Act.put, List.getElem_toArray, List.getElem_cons_zero, List.getElem_cons_succ, List.setIfInBounds_toArray, List.set_cons_zero, List.set_cons_succ]
      refine wpAnyH_take (i := 7) (v := ?_) rfl (by kernel_rfl) (by kernel_rfl) (by kernel_rfl) (fun _ _ _ h => h) (Or.inl ⟨by rfl, ?_⟩) hHeld ?_
      rotate_left
      · intro w hSw; obtain ⟨c0, c1, c2, c3, c4, c5⟩ := zs_cells (HI.out.below (later DB hSw)) HKZ.out HEZ.out; obtain ⟨d0, d1, d2, d3, d4, d5⟩ := zs_cells (HJ.out.below (later DB hSw)) HKZ.out HEZ.out; go_simp; try with_reducible rfl
      try simp only [Act.put, List.getElem_toArray, List.getElem_cons_zero, List.getElem_cons_succ, List.setIfInBounds_toArray, List.set_cons_zero, List.set_cons_succ]
      refine wpAnyH_take (i := 8) (v := ?_) rfl (by kernel_rfl) (by kernel_rfl) (by kernel_rfl) (fun _ _ _ h => h) (Or.inl ⟨by rfl, ?_⟩) hHeld ?_
      rotate_left
      · intro w hSw; obtain ⟨c0, c1, c2, c3, c4, c5⟩ := zs_cells (HI.out.below (later DB hSw)) HKZ.out HEZ.out; obtain ⟨d0, d1, d2, d3, d4, d5⟩ := zs_cells (HJ.out.below (later DB hSw)) HKZ.out HEZ.out; go_simp; try with_reducible rfl
      try simp only [Act.put, List.getElem_toArray, List.getElem_cons_zero, List.getElem_cons_succ, List.setIfInBounds_toArray, List.set_cons_zero, List.set_cons_succ]
      refine wpAnyH_done (by kernel_rfl) ?_ _
      replace DB := later DB hHeld
      clear hHeld
      go_wp2_with fail
      go_roundw
      case rel => exact ⟨k + 1, by omega, by go_num, DB⟩
      case measure => simp [intOf]; omega
    · obtain rfl : len = k := by omega
      go_wp2_with fail
      go_ret
      exact ⟨rfl, DB⟩
end Go.Proofs.YtkfnjdmjojodhaaDoor.mlaw
