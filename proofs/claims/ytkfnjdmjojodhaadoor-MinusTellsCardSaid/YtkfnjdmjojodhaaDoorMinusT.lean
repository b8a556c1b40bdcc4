/-
  What the document's own Minus, Rest, Left answer; each theorem names its conditions.
-/
import Derived.Test.YtkfnjdmjojodhaaDoorMinusS
namespace Go.Proofs.YtkfnjdmjojodhaaDoor.mref
open Go.Joins Go.ChangeShapes Go.WideShapes Go.ChangeAt Go.RowKit num rat dbm dref Go.Proofs.YtkfnjdmjojodhaaDoor.tight Go.Proofs.YtkfnjdmjojodhaaDoor.incl Go.Proofs.YtkfnjdmjojodhaaDoor.plaw Go.Proofs.YtkfnjdmjojodhaaDoor.zopen Go.Proofs.YtkfnjdmjojodhaaDoor.zone Go.Proofs.YtkfnjdmjojodhaaDoor.win Go.Proofs.YtkfnjdmjojodhaaDoor.minus Go.Proofs.YtkfnjdmjojodhaaDoor.mz Go.Proofs.YtkfnjdmjojodhaaDoor.mlaw Go.Proofs.YtkfnjdmjojodhaaDoor.zref
open bound hiding up
set_option linter.unusedVariables false
set_option linter.unusedSimpArgs false

/-- what the document's Minus answers. -/
def RMin (a b : List Int) (r : List (List Int)) (f : Int) : Prop := (¬ (MayZ a ∧ MayZ b) ∧ r = [] ∧ f = 8) ∨ (MayZ a ∧ MayZ b ∧ LessR b 6 a r f)
def RLef (a : List Int) (l : List (List Int)) (r : List (List Int)) (f : Int) : Prop := (¬ (MayZ a ∧ ∀ z, z ∈ l → MayZ z) ∧ r = [] ∧ f = 8) ∨ (MayZ a ∧ (∀ z, z ∈ l → MayZ z) ∧ RestR l [a] r f)
theorem less_len {a b : List Int} {o : List (List Int)} {f : Int} (ha : Zo a) (hb : Zo b) (h : LessR b 6 a o f) : o.length ≤ 6 := by
  obtain ⟨ys, hy⟩ := pcs_ex b 6 a
  obtain ⟨f', h1, _⟩ := pcs_less hb.2.1 hb.1 6 (Nat.le_refl _) ha hy
  obtain ⟨e1, e2⟩ := less_same 6 h1 h
  rw [e1]
  split
  · exact (pcs_all hb.2.1 hb.1 6 (Nat.le_refl _) ha hy).1
  · exact Nat.zero_le _

set_option maxRecDepth 100000 in
set_option maxHeartbeats 8000000 in
theorem rminus_any (a0 a1 a2 a3 a4 a5 b0 b1 b2 b3 b4 b5 : Int) (w : World) (la : Low [a0, a1, a2, a3, a4, a5]) (lb : Low [b0, b1, b2, b3, b4, b5]) (ta : Tops [a0, a1, a2, a3, a4, a5]) (tb : Tops [b0, b1, b2, b3, b4, b5]) : Calls Tryd.prog 12 #[.agg #[.int .i64 a0, .int .i64 a1, .int .i64 a2, .int .i64 a3, .int .i64 a4, .int .i64 a5], .agg #[.int .i64 b0, .int .i64 b1, .int .i64 b2, .int .i64 b3, .int .i64 b4, .int .i64 b5]] w (Zans (RMin [a0, a1, a2, a3, a4, a5] [b0, b1, b2, b3, b4, b5]) w) := by
  have HLA := Lib.hid la
  have HLB := Lib.hid lb
  have HTA := Lib.hid ta
  have HTB := Lib.hid tb
  have X : ∃ w0, w0 = (w.alloc (.cells #[.int .i64 a0, .int .i64 a1, .int .i64 a2, .int .i64 a3, .int .i64 a4, .int .i64 a5] 24)).alloc (.cells #[.int .i64 b0, .int .i64 b1, .int .i64 b2, .int .i64 b3, .int .i64 b4, .int .i64 b5] 24) := ⟨_, rfl⟩
  obtain ⟨w0, hX⟩ := X
  have DB : Below w.heap.size w w0 := by rw [hX]; exact bound.up2 _ _ _
  have D0 : lies.Lies w0 w.heap.size 24 #[.int .i64 a0, .int .i64 a1, .int .i64 a2, .int .i64 a3, .int .i64 a4, .int .i64 a5] := by rw [hX]; exact lies.on_alloc (lies.made _ _ _) _
  have D1 : lies.Lies w0 (w.heap.size + 1) 24 #[.int .i64 b0, .int .i64 b1, .int .i64 b2, .int .i64 b3, .int .i64 b4, .int .i64 b5] := by rw [hX]; exact lies.made_at _ _ _ _ (by simp)
  clear la lb ta tb
  go_enter Tryd.func12, Tryd.ntmps12
  go_wp2_with fail
  rw [← hX]
  clear hX
  refine (rmay_any a0 a1 a2 a3 a4 a5 w0 HLA.out HTA.out).mono ?_
  rintro e w1 ⟨hB, r1, rfl, h1⟩
  replace D0 := lies.on_call D0 hB
  replace D1 := lies.on_call D1 hB
  replace DB := later DB hB
  clear hB
  cases r1 with
  | false =>
    have NA := Lib.hid (show ¬ MayZ [a0, a1, a2, a3, a4, a5] from fun q => absurd (h1.2 q) (by decide))
    clear h1
    go_wp2_with fail
    exact bodyPost_ret (v := .tuple #[.slice none 0 0, .int .i64 8]) (by simp [results, Tryd.results12, go_sem]) rfl ⟨DB, _, [], 8, rfl, .inl ⟨fun q => NA.out q.1, rfl, rfl⟩, World.ownsRow_nil _ _ _ _⟩
  | true =>
    have MA := Lib.hid (show MayZ [a0, a1, a2, a3, a4, a5] from h1.1 rfl)
    clear h1
    obtain ⟨⟨kD1_0, kD1_1, kD1_2, kD1_3, kD1_4, kD1_5⟩, -⟩ := six_cells D1
    have kD1_l := lies.lt D1
    go_wp2_with fail
    clear kD1_0 kD1_1 kD1_2 kD1_3 kD1_4 kD1_5 kD1_l
    refine (rmay_any b0 b1 b2 b3 b4 b5 w1 HLB.out HTB.out).mono ?_
    rintro e w2 ⟨hB, r2, rfl, h2⟩
    replace D0 := lies.on_call D0 hB
    replace D1 := lies.on_call D1 hB
    replace DB := later DB hB
    clear hB
    cases r2 with
    | false =>
      have NA := Lib.hid (show ¬ MayZ [b0, b1, b2, b3, b4, b5] from fun q => absurd (h2.2 q) (by decide))
      clear h2
      go_wp2_with fail
      exact bodyPost_ret (v := .tuple #[.slice none 0 0, .int .i64 8]) (by simp [results, Tryd.results12, go_sem]) rfl ⟨DB, _, [], 8, rfl, .inl ⟨fun q => NA.out q.2, rfl, rfl⟩, World.ownsRow_nil _ _ _ _⟩
    | true =>
      have MB := Lib.hid (show MayZ [b0, b1, b2, b3, b4, b5] from h2.1 rfl)
      clear h2
      obtain ⟨⟨kD0_0, kD0_1, kD0_2, kD0_3, kD0_4, kD0_5⟩, -⟩ := six_cells D0
      have kD0_l := lies.lt D0
      obtain ⟨⟨kD1_0, kD1_1, kD1_2, kD1_3, kD1_4, kD1_5⟩, -⟩ := six_cells D1
      have kD1_l := lies.lt D1
      go_wp2_with fail
      clear kD0_0 kD0_1 kD0_2 kD0_3 kD0_4 kD0_5 kD0_l kD1_0 kD1_1 kD1_2 kD1_3 kD1_4 kD1_5 kD1_l
      refine (mref.less_any a0 a1 a2 a3 a4 a5 b0 b1 b2 b3 b4 b5 w2 (zo_may rfl HTA.out MA.out) (zo_may rfl HTB.out MB.out)).mono ?_
      rintro e w3 ⟨hB, v, r, f, rfl, hR, hO⟩
      have hD := DB.size
      have HO := Lib.hid (own_low hO hD)
      have HR := Lib.hid hR
      clear hO hR hD
      replace D0 := lies.on_call D0 hB
      replace D1 := lies.on_call D1 hB
      replace DB := later DB hB
      clear hB
      go_wp2_with fail
      exact bodyPost_ret (v := .tuple #[v, .int .i64 f]) (by simp [results, Tryd.results12, go_sem]) rfl ⟨DB, v, r, f, rfl, .inr ⟨MA.out, MB.out, HR.out⟩, HO.out⟩
/-- what lies in the loops of Rest. -/
def Lr (w : World) (v : Value) (cur : List (List Int)) (W : World) : Prop := Below w.heap.size w W ∧ W.ownsRow w.heap.size 24 6 v cur.length (flatZ cur) ∧ (∀ z, z ∈ cur → Zo z) ∧ cur.length ≤ 4096
theorem Lr.below {w X Y : World} {v : Value} {cur : List (List Int)} (h : Lr w v cur X) (k : Below X.heap.size X Y) : Lr w v cur Y := ⟨later h.1 k, incl.own_call h.2.1 k, h.2.2⟩

set_option maxRecDepth 100000 in
set_option maxHeartbeats 16000000 in
theorem rest_any (a0 a1 a2 a3 a4 a5 : Int) (ao : Option Addr) (len cap : Nat) (l : List (List Int)) (w : World) (za : Zo [a0, a1, a2, a3, a4, a5]) (hI : Zs w.heap.size w (.slice ao len cap) l) (hz : ∀ z, z ∈ l → Zo z) (hl : l.length = len) (hm : len ≤ 1000000) : Calls Tryd.prog 25 #[.agg #[.int .i64 a0, .int .i64 a1, .int .i64 a2, .int .i64 a3, .int .i64 a4, .int .i64 a5], .slice ao len cap] w (Zans (RestR l [[a0, a1, a2, a3, a4, a5]]) w) := by
  have HI := Lib.hid hI
  have HZ := Lib.hid hz
  have HL := Lib.hid hl
  have X : ∃ w0, w0 = (w.alloc (.cells #[.int .i64 a0, .int .i64 a1, .int .i64 a2, .int .i64 a3, .int .i64 a4, .int .i64 a5] 24)).alloc (.cells #[.int .i64 a0, .int .i64 a1, .int .i64 a2, .int .i64 a3, .int .i64 a4, .int .i64 a5] 24) := ⟨_, rfl⟩
  obtain ⟨w0, hX⟩ := X
  have DB : Below w.heap.size w w0 := by rw [hX]; exact bound.up2 _ _ _
  have L0 : Lr w (.slice (some ⟨w.heap.size + 1, 0, none⟩) 1 1) [[a0, a1, a2, a3, a4, a5]] w0 := ⟨DB, by
      have h := World.ownsRow_lit (w.alloc (.cells #[.int .i64 a0, .int .i64 a1, .int .i64 a2, .int .i64 a3, .int .i64 a4, .int .i64 a5] 24)) (e := 24) (size := 6) #[.int .i64 a0, .int .i64 a1, .int .i64 a2, .int .i64 a3, .int .i64 a4, .int .i64 a5] 1 (Nat.le_refl _) (by decide) rfl
      rw [World.size_alloc] at h
      rw [hX]
      exact own_far h (by omega) (fun _ _ _ q => q), fun z hz => by rw [List.mem_singleton.1 hz]; exact za, by show 1 ≤ 4096; decide⟩
  clear hI hz hl za DB
  go_enter Tryd.func25, Tryd.ntmps25
  go_wp2_with fail
  rw [← hX]
  clear hX
  go_loopw [7, 6] (fun i v wr => ∃ (k : Nat) (cur : List (List Int)), k ≤ len ∧ i = .int .i64 k ∧ Lr w v cur wr ∧ RowKit.Hid (∀ r f, RestR (l.drop k) cur r f → RestR l [[a0, a1, a2, a3, a4, a5]] r f)) (fun i _ _ => len - (intOf i).toNat)
  case atStart => exact ⟨0, [[a0, a1, a2, a3, a4, a5]], Nat.zero_le _, rfl, L0, Lib.hid (fun r f q => q)⟩
  case round =>
    clear L0
    obtain ⟨k, cur, hk, rfl, hL, HC⟩ := hrel
    obtain ⟨av, cv, rfl⟩ := zs_len (zs_own hL.2.1)
    by_cases hkn : k < len
    · skip
      have hkz : k < l.length := by rw [HL.out]; exact hkn
      have hzk := HZ.out _ (zat_mem hkz)
      have hdrop : l.drop k = zat l k :: l.drop (k + 1) := by
        rw [List.drop_eq_getElem_cons hkz]
        unfold zat
        rw [List.getElem?_eq_getElem hkz]
        rfl
      obtain ⟨bq, off, z0, z1, z2, z3, z4, z5, rfl, hb, ez⟩ := zs_six (HI.out.below hL.1) hkz hzk.2.2
      rw [ez] at hzk hdrop
      have HEZ := Lib.hid ez
      have HZK := Lib.hid hzk
      have HDR := Lib.hid hdrop
      have HKZ := Lib.hid hkz
      have HLL := Lib.hid hL
      have hb0 := hL.1
      have hcl := hL.2.2.2
      obtain ⟨WO, hWO⟩ : ∃ WO, WO = wr := ⟨_, rfl⟩
      rw [← hWO] at HLL
      have HWO := Lib.hid hWO
      clear ez hzk hdrop hL hWO
      go_wp2_with fail
      go_loopw [9, 8] (fun i v wq => ∃ (j : Nat) (nx : List (List Int)), j ≤ cur.length ∧ i = .int .i64 j ∧ Below WO.heap.size WO wq ∧ Below w.heap.size w wq ∧ wq.ownsRow w.heap.size 24 6 v nx.length (flatZ nx) ∧ (∀ g, v.ownBlock = some g → WO.heap.size ≤ g) ∧ nx.length ≤ 4096 ∧ (∀ z, z ∈ nx → Zo z) ∧ RowKit.Hid (∀ r f, StepR [z0, z1, z2, z3, z4, z5] (cur.drop j) nx r f → StepR [z0, z1, z2, z3, z4, z5] cur [] r f)) (fun i _ _ => cur.length - (intOf i).toNat)
      case atStart => exact ⟨0, [], Nat.zero_le _, rfl, by rw [HWO.out]; exact Below.refl _ _, hb0, World.ownsRow_nil _ _ _ _, (fun g e => by cases e), Nat.zero_le _, (fun z hz => by cases hz), Lib.hid (fun r f q => q)⟩
      case round =>
        clear hb0
        obtain ⟨j, nx, hj, rfl, hBO, hBw, hown, hog, hnl, hnz, HN⟩ := hrel
        have hV := (zs_own HLL.out.2.1).below hBO
        by_cases hjn : j < cur.length
        · skip
          have hzj := HLL.out.2.2.1 _ (zat_mem hjn)
          obtain ⟨bj, offj, y0, y1, y2, y3, y4, y5, rfl, hb2, ej⟩ := zs_six hV hjn hzj.2.2
          have hdj : cur.drop j = zat cur j :: cur.drop (j + 1) := by
            rw [List.drop_eq_getElem_cons hjn]
            unfold zat
            rw [List.getElem?_eq_getElem hjn]
            rfl
          rw [ej] at hzj hdj
          have hrq : bq < wr.heap.size := Nat.lt_of_lt_of_le hb hBw.size
          have hrj : bj < wr.heap.size := Nat.lt_of_lt_of_le hb2 hBO.size
          have HEJ := Lib.hid ej
          have HZJ := Lib.hid hzj
          have HDJ := Lib.hid hdj
          have HV := Lib.hid hV
          have HOG := Lib.hid hog
          have HNZ := Lib.hid hnz
          have HOWN := Lib.hid hown
          obtain ⟨nv, nc, rfl⟩ := zs_len (zs_own HOWN.out)
          clear ej hzj hdj hV hog hnz hown
          go_wp2_with fail
          refine wp_region_held_drew (S := Below wr.heap.size wr) (by kernel_rfl) (dbm.drawn1 (Below.refl _ _)) (fun hHeld => ?_)
          refine wpAnyH_take (i := 0) (v := ?_) rfl (by kernel_rfl) (by kernel_rfl) (by kernel_rfl) (fun _ _ _ h => h) (Or.inl ⟨by rfl, ?_⟩) hHeld ?_
          rotate_left
          · intro w hSw; obtain ⟨c0, c1, c2, c3, c4, c5⟩ := zs_cells (HI.out.below (later hBw hSw)) HKZ.out HEZ.out; obtain ⟨d0, d1, d2, d3, d4, d5⟩ := zs_cells ((zs_own HLL.out.2.1).below (hBO.trans (hSw.mono hBO.size))) hjn HEJ.out; go_simp; try with_reducible rfl
          try simp only [Act.put, List.getElem_toArray, List.getElem_cons_zero, List.getElem_cons_succ, List.setIfInBounds_toArray, List.set_cons_zero, List.set_cons_succ]
          refine wpAnyH_take (i := 1) (v := ?_) rfl (by kernel_rfl) (by kernel_rfl) (by kernel_rfl) (fun _ _ _ h => h) (Or.inl ⟨by rfl, ?_⟩) hHeld ?_
          rotate_left
          · intro w hSw; obtain ⟨c0, c1, c2, c3, c4, c5⟩ := zs_cells (HI.out.below (later hBw hSw)) HKZ.out HEZ.out; obtain ⟨d0, d1, d2, d3, d4, d5⟩ := zs_cells ((zs_own HLL.out.2.1).below (hBO.trans (hSw.mono hBO.size))) hjn HEJ.out; go_simp; try with_reducible rfl
          try simp only [Act.put, List.getElem_toArray, List.getElem_cons_zero, List.getElem_cons_succ, List.setIfInBounds_toArray, List.set_cons_zero, List.set_cons_succ]
          refine wpAnyH_take (i := 2) (v := ?_) rfl (by kernel_rfl) (by kernel_rfl) (by kernel_rfl) (fun _ _ _ h => h) (Or.inl ⟨by rfl, ?_⟩) hHeld ?_
          rotate_left
          · intro w hSw; obtain ⟨c0, c1, c2, c3, c4, c5⟩ := zs_cells (HI.out.below (later hBw hSw)) HKZ.out HEZ.out; obtain ⟨d0, d1, d2, d3, d4, d5⟩ := zs_cells ((zs_own HLL.out.2.1).below (hBO.trans (hSw.mono hBO.size))) hjn HEJ.out; go_simp; try with_reducible rfl
          try simp only [Act.put, List.getElem_toArray, List.getElem_cons_zero, List.getElem_cons_succ, List.setIfInBounds_toArray, List.set_cons_zero, List.set_cons_succ]
          refine wpAnyH_take (i := 3) (v := ?_) rfl (by kernel_rfl) (by kernel_rfl) (by kernel_rfl) (fun _ _ _ h => h) (Or.inl ⟨by rfl, ?_⟩) hHeld ?_
          rotate_left
          · intro w hSw; obtain ⟨c0, c1, c2, c3, c4, c5⟩ := zs_cells (HI.out.below (later hBw hSw)) HKZ.out HEZ.out; obtain ⟨d0, d1, d2, d3, d4, d5⟩ := zs_cells ((zs_own HLL.out.2.1).below (hBO.trans (hSw.mono hBO.size))) hjn HEJ.out; go_simp; try with_reducible rfl
          try simp only [Act.put, List.getElem_toArray, List.getElem_cons_zero, List.getElem_cons_succ, List.setIfInBounds_toArray, List.set_cons_zero, List.set_cons_succ]
          refine wpAnyH_take (i := 4) (v := ?_) rfl (by kernel_rfl) (by kernel_rfl) (by kernel_rfl) (fun _ _ _ h => h) (Or.inl ⟨by rfl, ?_⟩) hHeld ?_
          rotate_left
          · intro w hSw; obtain ⟨c0, c1, c2, c3, c4, c5⟩ := zs_cells (HI.out.below (later hBw hSw)) HKZ.out HEZ.out; obtain ⟨d0, d1, d2, d3, d4, d5⟩ := zs_cells ((zs_own HLL.out.2.1).below (hBO.trans (hSw.mono hBO.size))) hjn HEJ.out; go_simp; try with_reducible rfl
          try simp only [Act.put, List.getElem_toArray, List.getElem_cons_zero, List.getElem_cons_succ, List.setIfInBounds_toArray, List.set_cons_zero, List.set_cons_succ]
          refine wpAnyH_take (i := 5) (v := ?_) rfl (by kernel_rfl) (by kernel_rfl) (by kernel_rfl) (fun _ _ _ h => h) (Or.inl ⟨by rfl, ?_⟩) hHeld ?_
          rotate_left
          · intro w hSw; obtain ⟨c0, c1, c2, c3, c4, c5⟩ := zs_cells (HI.out.below (later hBw hSw)) HKZ.out HEZ.out; obtain ⟨d0, d1, d2, d3, d4, d5⟩ := zs_cells ((zs_own HLL.out.2.1).below (hBO.trans (hSw.mono hBO.size))) hjn HEJ.out; go_simp; try with_reducible rfl
          try simp only [Act.put, List.getElem_toArray, List.getElem_cons_zero, List.getElem_cons_succ, List.setIfInBounds_toArray, List.set_cons_zero, List.set_cons_succ]
          refine wpAnyH_take (i := 6) (v := ?_) rfl (by kernel_rfl) (by kernel_rfl) (by kernel_rfl) (fun _ _ _ h => h) (Or.inl ⟨by rfl, ?_⟩) hHeld ?_
          rotate_left
          · intro w hSw; obtain ⟨c0, c1, c2, c3, c4, c5⟩ := zs_cells (HI.out.below (later hBw hSw)) HKZ.out HEZ.out; obtain ⟨d0, d1, d2, d3, d4, d5⟩ := zs_cells ((zs_own HLL.out.2.1).below (hBO.trans (hSw.mono hBO.size))) hjn HEJ.out; go_simp; try with_reducible rfl
          try simp only [Act.put, List.getElem_toArray, List.getElem_cons_zero, List.getElem_cons_succ, List.setIfInBounds_toArray, List.set_cons_zero, List.set_cons_succ]
          refine wpAnyH_take (i := 7) (v := ?_) rfl (by kernel_rfl) (by kernel_rfl) (by kernel_rfl) (fun _ _ _ h => h) (Or.inl ⟨by rfl, ?_⟩) hHeld ?_
          rotate_left
          · intro w hSw; obtain ⟨c0, c1, c2, c3, c4, c5⟩ := zs_cells (HI.out.below (later hBw hSw)) HKZ.out HEZ.out; obtain ⟨d0, d1, d2, d3, d4, d5⟩ := zs_cells ((zs_own HLL.out.2.1).below (hBO.trans (hSw.mono hBO.size))) hjn HEJ.out; go_simp; try with_reducible rfl
          try simp only [Act.put, List.getElem_toArray, List.getElem_cons_zero, List.getElem_cons_succ, List.setIfInBounds_toArray, List.set_cons_zero, List.set_cons_succ]
          refine wpAnyH_ready (rs := [8]) (by kernel_rfl) (by simp) (AllReadyH.cons rfl (fun K hK => ?_) AllReadyH.nil)
          go_simp
          refine (mref.less_any y0 y1 y2 y3 y4 y5 z0 z1 z2 z3 z4 z5 _ HZJ.out HZK.out).mono ?_
          rintro e u5 ⟨hB, vx, rx, fx, rfl, hR, hO⟩
          have hO := zs_own hO
          obtain ⟨ax, cx, rfl⟩ := zs_len hO
          have HX := Lib.hid hO
          have HR := Lib.hid hR
          clear hR hO
          refine hK.out _ _ (hHeld.trans (hB.mono hHeld.size)) (fun hNew => ?_)
          clear hB
          clear hHeld hK K
          have hHeld := hNew
          clear hNew
          try simp only [Act.put, List.getElem_toArray, List.getElem_cons_zero, List.getElem_cons_succ, List.setIfInBounds_toArray, List.set_cons_zero, List.set_cons_succ]
          refine wpAnyH_take (i := 9) (v := ?_) rfl (by kernel_rfl) (by kernel_rfl) (by kernel_rfl) (fun _ _ _ h => h) (Or.inl ⟨by rfl, ?_⟩) hHeld ?_
          rotate_left
          · intro w hSw; skip; go_simp; try with_reducible rfl
          try simp only [Act.put, List.getElem_toArray, List.getElem_cons_zero, List.getElem_cons_succ, List.setIfInBounds_toArray, List.set_cons_zero, List.set_cons_succ]
          refine wpAnyH_take (i := 10) (v := ?_) rfl (by kernel_rfl) (by kernel_rfl) (by kernel_rfl) (fun _ _ _ h => h) (Or.inl ⟨by rfl, ?_⟩) hHeld ?_
          rotate_left
          · intro w hSw; skip; go_simp; try with_reducible rfl
          try simp only [Act.put, List.getElem_toArray, List.getElem_cons_zero, List.getElem_cons_succ, List.setIfInBounds_toArray, List.set_cons_zero, List.set_cons_succ]
          refine wpAnyH_take (i := 11) (v := ?_) rfl (by kernel_rfl) (by kernel_rfl) (by kernel_rfl) (fun _ _ _ h => h) (Or.inl ⟨by rfl, ?_⟩) hHeld ?_
          rotate_left
          · intro w hSw; skip; go_simp; try with_reducible rfl
          try simp only [Act.put, List.getElem_toArray, List.getElem_cons_zero, List.getElem_cons_succ, List.setIfInBounds_toArray, List.set_cons_zero, List.set_cons_succ]
          refine wpAnyH_take (i := 12) (v := ?_) rfl (by kernel_rfl) (by kernel_rfl) (by kernel_rfl) (fun _ _ _ h => h) (Or.inl ⟨by rfl, ?_⟩) hHeld ?_
          rotate_left
          · intro w hSw; skip; go_simp; try with_reducible rfl
          try simp only [Act.put, List.getElem_toArray, List.getElem_cons_zero, List.getElem_cons_succ, List.setIfInBounds_toArray, List.set_cons_zero, List.set_cons_succ]
          refine wpAnyH_take (i := 13) (v := ?_) rfl (by kernel_rfl) (by kernel_rfl) (by kernel_rfl) (fun _ _ _ h => h) (Or.inl ⟨by rfl, ?_⟩) hHeld ?_
          rotate_left
          · intro w hSw; skip; go_simp; try with_reducible rfl
          try simp only [Act.put, List.getElem_toArray, List.getElem_cons_zero, List.getElem_cons_succ, List.setIfInBounds_toArray, List.set_cons_zero, List.set_cons_succ]
          refine wpAnyH_done (by kernel_rfl) ?_ _
          replace hBO := hBO.trans (hHeld.mono hBO.size)
          replace hBw := later hBw hHeld
          have hown := incl.own_call HOWN.out hHeld
          clear hHeld HOWN HV
          by_cases hf : fx = 0
          · skip
            subst hf
            have hxl := less_len HZJ.out HZK.out HR.out
            have hxz := less_zo HZK.out.2.1 HZK.out.1 6 (Nat.le_refl _) HZJ.out HR.out
            obtain ⟨vq, wq, hrun, hown2, hgrow2, hbl⟩ := app_zones w.heap.size 28 (.slice nv nx.length nc) (.slice ax rx.length cx) _ _ _ _ _ hown HX.out (by omega) hBw.size
            have hBO2 : Below WO.heap.size WO wq := hBO.grown hgrow2 hBO.size (fun g e => HOG.out g e)
            have hBw2 : Below w.heap.size w wq := held_grown hBw hBw.size hown (Nat.le_refl _) hgrow2
            have hog2 : ∀ g, vq.ownBlock = some g → WO.heap.size ≤ g := fun g e => by
              rcases hbl with q | q
              · exact HOG.out g (q.symm.trans e)
              · rw [q] at e; cases e; exact hBO.size
            have hown3 : wq.ownsRow w.heap.size 24 6 vq (nx ++ rx).length (flatZ (nx ++ rx)) := by
              rw [List.length_append, flatZ_app]; exact hown2
            obtain ⟨uv, uc, eq3⟩ := zs_len (zs_own hown3)
            rw [List.length_append] at eq3
            subst eq3
            have hln : (nx ++ rx).length = nx.length + rx.length := List.length_append
            have HO3 := Lib.hid hown3
            have HG2 := Lib.hid hog2
            have HXZ := Lib.hid hxz
            have HRUN := Lib.hid hrun
            have HLN := Lib.hid hln
            clear hown hown2 hown3 hog2 hgrow2 hbl hxz hrun hln HX hBO hBw
            by_cases h4 : nx.length + rx.length ≤ 4096
            · skip
              have h4i : ¬ (4096 : Int) < ((nx.length + rx.length : Nat) : Int) := by omega
              have h4j : ¬ (4096 : Int) < (nx.length : Int) + (rx.length : Int) := by omega
              go_wp2_with (at_builtin; refine dref.append_run2 rfl (.tmp 41) (.tmp 42) 28 rfl _ _ _ _ rfl rfl HRUN.out ?_; clear HRUN)
              go_roundw
              case rel => exact ⟨j + 1, nx ++ rx, by omega, by go_num, hBO2, hBw2, HO3.out, HG2.out, by rw [HLN.out]; exact h4, fun z hz => by
                rcases List.mem_append.1 hz with q | q
                · exact HNZ.out z q
                · exact HXZ.out z q, Lib.hid (fun r f q => HN.out r f (by rw [HDJ.out]; exact ⟨rx, 0, HR.out, .inr ⟨rfl, .inr ⟨by rw [HLN.out]; omega, q⟩⟩⟩))⟩
              case measure => simp [intOf]; omega
            · skip
              have h4i : (4096 : Int) < ((nx.length + rx.length : Nat) : Int) := by omega
              have h4j : (4096 : Int) < (nx.length : Int) + (rx.length : Int) := by omega
              have H4 := Lib.hid h4
              clear h4
              go_wp2_with (at_builtin; refine dref.append_run2 rfl (.tmp 41) (.tmp 42) 28 rfl _ _ _ _ rfl rfl HRUN.out ?_; clear HRUN)
              exact bodyPost_ret (v := .tuple #[.slice none 0 0, .int .i64 4]) (by simp [results, Tryd.results25, go_sem]) rfl ⟨hBw2, _, [], 4, rfl, HC.out [] 4 (by rw [HDR.out]; exact ⟨[], 4, HN.out [] 4 (by rw [HDJ.out]; exact ⟨rx, 0, HR.out, .inr ⟨rfl, .inl ⟨by rw [HLN.out]; have := H4.out; omega, rfl, rfl⟩⟩⟩), .inl ⟨by decide, rfl, rfl⟩⟩), World.ownsRow_nil _ _ _ _⟩
          · skip
            have hfb : (fx == 0) = false := by simpa using hf
            have hfn : (fx != 0) = true := by simpa using hf
            have HF := Lib.hid hf
            clear hf hown HX
            go_wp2_with fail
            exact bodyPost_ret (v := .tuple #[.slice none 0 0, .int .i64 fx]) (by simp [results, Tryd.results25, go_sem]) rfl ⟨hBw, _, [], fx, rfl, HC.out [] fx (by rw [HDR.out]; exact ⟨[], fx, HN.out [] fx (by rw [HDJ.out]; exact ⟨rx, fx, HR.out, .inl ⟨HF.out, rfl, rfl⟩⟩), .inl ⟨HF.out, rfl, rfl⟩⟩), World.ownsRow_nil _ _ _ _⟩
        · skip
          obtain rfl : j = cur.length := by omega
          have hst := HN.out nx 0 (by rw [List.drop_length]; exact ⟨rfl, rfl⟩)
          have HST := Lib.hid hst
          obtain ⟨nv, nc, rfl⟩ := zs_len (zs_own hown)
          have HL3 : Lr w (.slice nv nx.length nc) nx wr := ⟨hBw, hown, hnz, hnl⟩
          clear hst hBO hBw hown hog hnl hnz hV
          go_wp2_with fail
          go_roundw
          case rel => exact ⟨k + 1, nx, by omega, by go_num, HL3, Lib.hid (fun r f q => HC.out r f (by rw [HDR.out]; exact ⟨nx, 0, HST.out, .inr ⟨rfl, q⟩⟩))⟩
          case measure => simp [intOf]; omega
    · skip
      obtain rfl : len = k := by omega
      have HLL := Lib.hid hL
      clear hL
      go_wp2_with fail
      exact bodyPost_ret (v := .tuple #[.slice av cur.length cv, .int .i64 0]) (by simp [results, Tryd.results25, go_sem]) rfl ⟨HLL.out.1, _, cur, 0, rfl, HC.out cur 0 (by rw [← HL.out, List.drop_length]; exact ⟨rfl, rfl⟩), HLL.out.2.1⟩

set_option maxRecDepth 100000 in
set_option maxHeartbeats 16000000 in
theorem rleft_any (a0 a1 a2 a3 a4 a5 : Int) (ao : Option Addr) (len cap : Nat) (l : List (List Int)) (w : World) (la : Low [a0, a1, a2, a3, a4, a5]) (ta : Tops [a0, a1, a2, a3, a4, a5]) (hI : Zs w.heap.size w (.slice ao len cap) l) (h6 : Six l) (hlo : ∀ z, z ∈ l → Low z) (hl : l.length = len) (hm : len ≤ 1000000) : Calls Tryd.prog 13 #[.agg #[.int .i64 a0, .int .i64 a1, .int .i64 a2, .int .i64 a3, .int .i64 a4, .int .i64 a5], .slice ao len cap] w (Zans (RLef [a0, a1, a2, a3, a4, a5] l) w) := by
  have HLA := Lib.hid la
  have HTA := Lib.hid ta
  have HI := Lib.hid hI
  have H6 := Lib.hid h6
  have HLO := Lib.hid hlo
  have HL := Lib.hid hl
  have D0 := lies.made w 24 #[.int .i64 a0, .int .i64 a1, .int .i64 a2, .int .i64 a3, .int .i64 a4, .int .i64 a5]
  have DB := bound.up1 w (.cells #[.int .i64 a0, .int .i64 a1, .int .i64 a2, .int .i64 a3, .int .i64 a4, .int .i64 a5] 24)
  clear la ta hI h6 hlo hl
  go_enter Tryd.func13, Tryd.ntmps13
  go_wp2_with fail
  generalize w.alloc (.cells #[.int .i64 a0, .int .i64 a1, .int .i64 a2, .int .i64 a3, .int .i64 a4, .int .i64 a5] 24) = w0 at D0 DB ⊢
  refine (rmay_any a0 a1 a2 a3 a4 a5 w0 HLA.out HTA.out).mono ?_
  rintro e w1 ⟨hB, r1, rfl, h1⟩
  replace D0 := lies.on_call D0 hB
  replace DB := later DB hB
  clear hB
  cases r1 with
  | false =>
    have NA := Lib.hid (show ¬ MayZ [a0, a1, a2, a3, a4, a5] from fun q => absurd (h1.2 q) (by decide))
    clear h1
    go_wp2_with fail
    exact bodyPost_ret (v := .tuple #[.slice none 0 0, .int .i64 8]) (by simp [results, Tryd.results13, go_sem]) rfl ⟨DB, _, [], 8, rfl, .inl ⟨fun q => NA.out q.1, rfl, rfl⟩, World.ownsRow_nil _ _ _ _⟩
  | true =>
    have MA := Lib.hid (show MayZ [a0, a1, a2, a3, a4, a5] from h1.1 rfl)
    clear h1
    go_wp2_with fail
    go_loopw [6] (fun i wr => ∃ k : Nat, k ≤ len ∧ i = .int .i64 k ∧ lies.Lies wr w.heap.size 24 #[.int .i64 a0, .int .i64 a1, .int .i64 a2, .int .i64 a3, .int .i64 a4, .int .i64 a5] ∧ Below w.heap.size w wr ∧ RowKit.Hid (∀ j, j < k → MayZ (zat l j))) (fun i _ => len - (intOf i).toNat)
    case atStart => exact ⟨0, Nat.zero_le _, rfl, D0, DB, Lib.hid (fun j hj => absurd hj (Nat.not_lt_zero j))⟩
    case round =>
      clear D0 DB
      obtain ⟨k, hk, rfl, D0, DB, HM⟩ := hrel
      by_cases hkn : k < len
      · skip
        have hkz : k < l.length := by rw [HL.out]; exact hkn
        obtain ⟨hz6, hzt⟩ := H6.out _ (zat_mem hkz)
        have hlk := HLO.out _ (zat_mem hkz)
        have hmem := zat_mem hkz
        have hone : ∀ j, j = k → zat l j = zat l k := fun j e => by rw [e]
        obtain ⟨bq, off, z0, z1, z2, z3, z4, z5, rfl, hb, ez⟩ := zs_six (HI.out.below DB) hkz hz6
        obtain ⟨c0, c1, c2, c3, c4, c5⟩ := zs_cells (HI.out.below DB) hkz ez
        rw [ez] at hzt hlk hmem hone
        have hbr : bq < wr.heap.size := Nat.lt_of_lt_of_le hb DB.size
        have HT := Lib.hid hzt
        have HLK := Lib.hid hlk
        have HMEM := Lib.hid hmem
        have HONE := Lib.hid hone
        clear hzt hlk hmem hone ez hz6
        go_wp2_with fail
        clear c0 c1 c2 c3 c4 c5
        refine (rmay_any z0 z1 z2 z3 z4 z5 _ HLK.out HT.out).mono ?_
        rintro e w2 ⟨hB, r2, rfl, h2⟩
        replace D0 := lies.on_call D0 hB
        replace DB := later DB hB
        clear hB
        cases r2 with
        | false =>
          have NA := Lib.hid (show ¬ MayZ [z0, z1, z2, z3, z4, z5] from fun q => absurd (h2.2 q) (by decide))
          clear h2 D0
          go_wp2_with fail
          exact bodyPost_ret (v := .tuple #[.slice none 0 0, .int .i64 8]) (by simp [results, Tryd.results13, go_sem]) rfl ⟨DB, _, [], 8, rfl, .inl ⟨fun q => NA.out (q.2 _ HMEM.out), rfl, rfl⟩, World.ownsRow_nil _ _ _ _⟩
        | true =>
          have HA2 := Lib.hid (show MayZ [z0, z1, z2, z3, z4, z5] from h2.1 rfl)
          clear h2
          go_wp2_with fail
          go_roundw
          case rel => exact ⟨k + 1, by omega, by go_num, D0, DB, Lib.hid (fun j hj => by
            by_cases e : j = k
            · rw [HONE.out j e]; exact HA2.out
            · exact HM.out j (by omega))⟩
          case measure => simp [intOf]; omega
      · skip
        obtain rfl : len = k := by omega
        have hall : ∀ z, z ∈ l → MayZ z := fun z hz => by
          obtain ⟨j, hj, rfl⟩ := List.getElem_of_mem hz
          have := HM.out j (by rw [← HL.out]; exact hj)
          unfold zat at this
          rw [List.getElem?_eq_getElem hj] at this
          exact this
        have HALL := Lib.hid hall
        clear hall
        obtain ⟨⟨kD0_0, kD0_1, kD0_2, kD0_3, kD0_4, kD0_5⟩, -⟩ := six_cells D0
        have kD0_l := lies.lt D0
        go_wp2_with fail
        clear kD0_0 kD0_1 kD0_2 kD0_3 kD0_4 kD0_5 kD0_l
        refine (rest_any a0 a1 a2 a3 a4 a5 ao len cap l wr (zo_may rfl HTA.out MA.out) ((HI.out.below DB).mono DB.size) (H6.out.zo HALL.out) HL.out hm).mono ?_
        rintro e w2 ⟨hB, v, r, f, rfl, hR, hO⟩
        have hD := DB.size
        have HO := Lib.hid (own_low hO hD)
        have HR := Lib.hid hR
        clear hO hR hD
        replace D0 := lies.on_call D0 hB
        replace DB := later DB hB
        clear hB
        go_wp2_with fail
        exact bodyPost_ret (v := .tuple #[v, .int .i64 f]) (by simp [results, Tryd.results13, go_sem]) rfl ⟨DB, v, r, f, rfl, .inr ⟨MA.out, HALL.out, HR.out⟩, HO.out⟩
end Go.Proofs.YtkfnjdmjojodhaaDoor.mref
