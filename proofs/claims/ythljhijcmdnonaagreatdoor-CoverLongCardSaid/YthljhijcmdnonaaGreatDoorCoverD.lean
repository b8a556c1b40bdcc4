
/-
  Lists that come to cover's calls: whether they may be; a list of one's own out of one, and out of two; whether some cover a zone; each theorem names its conditions.
-/
import Derived.Test.YthljhijcmdnonaaGreatDoorCoverI
import Derived.Test.YthljhijcmdnonaaGreatDoorMinusF
import Derived.Test.YthljhijcmdnonaaGreatDoorSorts
import Derived.BigQuiet
namespace Go.Proofs.YthljhijcmdnonaaGreatDoor.cover
open Go.Joins Go.ChangeShapes Go.WideShapes Go.ChangeAt Go.RowKit num rat dbm Go.Proofs.YthljhijcmdnonaaGreatDoor.tight Go.Proofs.YthljhijcmdnonaaGreatDoor.incl Go.Proofs.YthljhijcmdnonaaGreatDoor.plaw Go.Proofs.YthljhijcmdnonaaGreatDoor.zopen Go.Proofs.YthljhijcmdnonaaGreatDoor.zone Go.Proofs.YthljhijcmdnonaaGreatDoor.win Go.Proofs.YthljhijcmdnonaaGreatDoor.minus Go.Proofs.YthljhijcmdnonaaGreatDoor.mz Go.Proofs.YthljhijcmdnonaaGreatDoor.mlaw
open bound hiding up
set_option linter.unusedVariables false
set_option linter.unusedSimpArgs false
set_option linter.unusedSectionVars false

set_option maxRecDepth 100000 in
set_option maxHeartbeats 16000000 in
theorem check_gen (g n : Nat) (A : Nat → Option Addr) (L C : Nat → Nat) (zs : Nat → List (List Int)) (w : World) (hP : (∀ j, j < n → L j ≤ 4096) → Pl w) (hg : g < w.heap.size) (hn : n ≤ 2)
    (hc : ∀ j, j < n → w.cell? ⟨g, j, none⟩ = some (.slice (A j) (L j) (C j)))
    (hZ : (∀ j, j < n → L j ≤ 4096) → ∀ j, j < n → Zs w.heap.size w (.slice (A j) (L j) (C j)) (zs j) ∧ Six (zs j) ∧ (zs j).length = L j) :
    Calls Tryz.prog 21 #[.slice (some ⟨g, 0, none⟩) n n] w fun e w' => Below w.heap.size w w' ∧ ∃ f, e = .returned (.int .i64 f) ∧
      (((∃ j, j < n ∧ 4096 < L j) ∧ f = 4) ∨ ((∀ j, j < n → L j ≤ 4096) ∧ (((∀ j, j < n → ∀ z, z ∈ zs j → MayZ z) ∧ f = 0) ∨ ((∃ j, j < n ∧ ∃ z, z ∈ zs j ∧ ¬ MayZ z) ∧ f = 8)))) := by
  have HC := Lib.hid hc
  have HZ := Lib.hid hZ
  have HP := Lib.hid hP
  clear hc hZ hP
  go_enter Tryz.func21, Tryz.ntmps21
  go_wp2_with fail
  go_loopw [12] (fun i wr => ∃ k : Nat, k ≤ n ∧ i = .int .i64 k ∧ Below w.heap.size w wr ∧ RowKit.Hid (∀ j, j < k → L j ≤ 4096)) (fun i _ => n - (intOf i).toNat)
  case atStart => exact ⟨0, Nat.zero_le _, rfl, Below.refl _ _, Lib.hid (fun j hj => absurd hj (Nat.not_lt_zero j))⟩
  case round =>
    obtain ⟨k, hk, rfl, hB, HM⟩ := hrel
    by_cases hkn : k < n
    · have c0 := (hB.cell (p := ⟨g, k, none⟩) hg).trans (HC.out k hkn)
      have hkn' : (k : Int) < n := by omega
      obtain ⟨len, hlen⟩ : ∃ x, x = L k := ⟨_, rfl⟩
      rw [← hlen] at c0
      generalize A k = ao at c0
      generalize C k = cap at c0
      have HLEN := Lib.hid hlen
      clear hlen
      have hgr : g < wr.heap.size := Nat.lt_of_lt_of_le hg hB.size
      by_cases hl : 4096 < len
      · have hl' : (4096 : Int) < (len : Int) := by omega
        go_wp2_with fail
        go_ret
        exact ⟨hB, 4, rfl, .inl ⟨⟨k, hkn, by rw [← HLEN.out]; exact hl⟩, rfl⟩⟩
      · have hl' : ¬ (4096 : Int) < (len : Int) := by omega
        go_wp2_with fail
        go_roundw
        case rel => exact ⟨k + 1, by omega, by go_num, hB, Lib.hid (fun j hj => by
          by_cases e : j = k
          · rw [e, ← HLEN.out]; omega
          · exact HM.out j (by omega))⟩
        case measure => simp [intOf]; omega
    · obtain rfl : n = k := by omega
      have HZ2 := Lib.hid (HZ.out HM.out)
      have P1 := (HP.out HM.out).on hB
      have hkn' : ¬ (n : Int) < n := by omega
      go_wp2_with fail
      go_loopw [22] (fun i wq => ∃ k : Nat, k ≤ n ∧ i = .int .i64 k ∧ Below w.heap.size w wq ∧ Pl wq ∧ RowKit.Hid (∀ j, j < k → ∀ z, z ∈ zs j → MayZ z)) (fun i _ => n - (intOf i).toNat)
      case atStart => exact ⟨0, Nat.zero_le _, rfl, hB, P1, Lib.hid (fun j hj => absurd hj (Nat.not_lt_zero j))⟩
      case round =>
        clear hB P1 hkn' hkn hk
        obtain ⟨k, hk, rfl, hB, P0, HY⟩ := hrel
        by_cases hkn : k < n
        · have c0 := (hB.cell (p := ⟨g, k, none⟩) hg).trans (HC.out k hkn)
          have hkn' : (k : Int) < n := by omega
          obtain ⟨hI, h6, hl⟩ := HZ2.out k hkn
          have hl4 := HM.out k hkn
          have HO := Lib.hid (show ∀ j, j = k → zs j = zs k from fun j e => by rw [e])
          generalize A k = ao at c0 hI
          generalize C k = cap at c0 hI
          generalize L k = len at c0 hI hl hl4
          generalize zs k = zq at hI h6 hl HO
          have HI := Lib.hid hI
          have H6 := Lib.hid h6
          have HL := Lib.hid hl
          clear hI h6 hl
          have hgr : g < wr.heap.size := Nat.lt_of_lt_of_le hg hB.size
          go_wp2_with fail
          clear c0 hgr hkn'
          go_loopw [28] (fun i wq => ∃ m : Nat, m ≤ len ∧ i = .int .i64 m ∧ Below w.heap.size w wq ∧ Pl wq ∧ RowKit.Hid (∀ j, j < m → MayZ (zat zq j))) (fun i _ => len - (intOf i).toNat)
          case atStart => exact ⟨0, Nat.zero_le _, rfl, hB, P0, Lib.hid (fun j hj => absurd hj (Nat.not_lt_zero j))⟩
          case round =>
            clear hB P0
            obtain ⟨m, hm, rfl, hB, P0, HN⟩ := hrel
            by_cases hmn : m < len
            · have hkz : m < zq.length := by rw [HL.out]; exact hmn
              obtain ⟨bq, off, rfl, -, hb, c0, c1, c2, c3, c4, c5⟩ := zs_at (HI.out.below hB) hkz
              have hbr : bq < wr.heap.size := Nat.lt_of_lt_of_le hb hB.size
              obtain ⟨hz6, hzt⟩ := H6.out _ (zat_mem hkz)
              have hmem := zat_mem hkz
              have hone : ∀ j, j = m → zat zq j = zat zq m := fun j e => by rw [e]
              generalize hzk : zat zq m = zk at c0 c1 c2 c3 c4 c5 hz6 hzt hmem hone
              obtain ⟨z0, z1, z2, z3, z4, z5, rfl⟩ := six hz6
              have c0 : wr.cell? ⟨bq, off + m * 6, none⟩ = some (.int .i64 z0) := c0
              have c1 : wr.cell? ⟨bq, off + m * 6 + 1, none⟩ = some (.int .i64 z1) := c1
              have c2 : wr.cell? ⟨bq, off + m * 6 + 2, none⟩ = some (.int .i64 z2) := c2
              have c3 : wr.cell? ⟨bq, off + m * 6 + 3, none⟩ = some (.int .i64 z3) := c3
              have c4 : wr.cell? ⟨bq, off + m * 6 + 4, none⟩ = some (.int .i64 z4) := c4
              have c5 : wr.cell? ⟨bq, off + m * 6 + 5, none⟩ = some (.int .i64 z5) := c5
              have HZT := Lib.hid hzt
              have HMEM := Lib.hid hmem
              have HONE := Lib.hid hone
              clear hzt hmem hone hz6 hzk
              go_wp2_with fail
              clear c0 c1 c2 c3 c4 c5
              have hA := bound.up1 wr (.cells #[.int .i64 z0, .int .i64 z1, .int .i64 z2, .int .i64 z3, .int .i64 z4, .int .i64 z5] 24)
              replace P0 := P0.on hA
              replace hB := later hB hA
              clear hA
              generalize wr.heap.size = ZB
              generalize wr.alloc (.cells #[.int .i64 z0, .int .i64 z1, .int .i64 z2, .int .i64 z3, .int .i64 z4, .int .i64 z5] 24) = w1 at P0 hB ⊢
              refine (zone.check_any z0 z1 z2 z3 z4 z5 w1 P0 HZT.out).mono ?_
              rintro e w2 ⟨hB2, f, rfl, hcc⟩
              replace P0 := P0.on hB2
              replace hB := later hB hB2
              clear hB2
              rcases hcc with ⟨hma, rfl⟩ | ⟨hma, rfl⟩
              · have HA := Lib.hid hma
                clear hma
                go_wp2_with fail
                go_roundw
                case rel => exact ⟨m + 1, by omega, by go_num, hB, P0, Lib.hid (fun j hj => by
                  by_cases e : j = m
                  · rw [HONE.out j e]; exact HA.out
                  · exact HN.out j (by omega))⟩
                case measure => simp [intOf]; omega
              · have HA := Lib.hid hma
                clear hma
                go_wp2_with fail
                go_ret
                exact ⟨hB, 8, rfl, .inr ⟨HM.out, .inr ⟨⟨k, hkn, _, by rw [HO.out k rfl]; exact HMEM.out, HA.out⟩, rfl⟩⟩⟩
            · obtain rfl : len = m := by omega
              have hmn' : ¬ (len : Int) < len := by omega
              go_wp2_with fail
              go_roundw
              case rel => exact ⟨k + 1, by omega, by go_num, hB, P0, Lib.hid (fun j hj => by
                by_cases e : j = k
                · rw [HO.out j e]
                  intro z hz
                  obtain ⟨i, hi, rfl⟩ := List.getElem_of_mem hz
                  have := HN.out i (by rw [← HL.out]; exact hi)
                  unfold zat at this
                  rw [List.getElem?_eq_getElem hi] at this
                  exact this
                · exact HY.out j (by omega))⟩
              case measure => simp [intOf]; omega
        · obtain rfl : n = k := by omega
          have hkn' : ¬ (n : Int) < n := by omega
          go_wp2_with fail
          go_ret
          exact ⟨hB, 0, rfl, .inr ⟨HM.out, .inl ⟨HY.out, rfl⟩⟩⟩
/-- check of one list, and of two. -/
theorem check_one (g : Nat) (ao : Option Addr) (len cap : Nat) (l : List (List Int)) (w : World) (hc : lies.Lies w g 26 #[.slice ao len cap]) (hZ : len ≤ 4096 → Pl w ∧ Zs w.heap.size w (.slice ao len cap) l ∧ Six l) (hl : l.length = len) :
    Calls Tryz.prog 21 #[.slice (some ⟨g, 0, none⟩) 1 1] w fun e w' => Below w.heap.size w w' ∧ ∃ f, e = .returned (.int .i64 f) ∧ ChkR l [] f := by
  refine (check_gen g 1 (fun _ => ao) (fun _ => len) (fun _ => cap) (fun _ => l) w (fun h => (hZ (h 0 (by decide))).1) (lies.lt hc) (by decide) (fun j hj => ?_) (fun h j hj => ⟨(hZ (h 0 (by decide))).2.1, (hZ (h 0 (by decide))).2.2, hl⟩)).mono ?_
  · obtain rfl : j = 0 := by omega
    exact lies.cell hc 0
  · rintro e w' ⟨hB, f, rfl, ⟨⟨j, hj, hk⟩, rfl⟩ | ⟨hk, ⟨hm, rfl⟩ | ⟨⟨j, hj, z, hz, hm⟩, rfl⟩⟩⟩
    · exact ⟨hB, 4, rfl, .inl ⟨.inl (by rw [hl]; exact hk), rfl⟩⟩
    · exact ⟨hB, 0, rfl, .inr (.inr ⟨by rw [hl]; exact hk 0 (by decide), by decide, hm 0 (by decide), fun x hx => (by cases hx), rfl⟩)⟩
    · exact ⟨hB, 8, rfl, .inr (.inl ⟨by rw [hl]; exact hk 0 (by decide), by decide, fun q => hm (q.1 z hz), rfl⟩)⟩
theorem check_two (g : Nat) (ao : Option Addr) (len cap : Nat) (bo : Option Addr) (lenb capb : Nat) (l m : List (List Int)) (w : World) (hc : lies.Lies w g 26 #[.slice ao len cap, .slice bo lenb capb])
    (hZ : len ≤ 4096 → lenb ≤ 4096 → Pl w ∧ (Zs w.heap.size w (.slice ao len cap) l ∧ Six l) ∧ Zs w.heap.size w (.slice bo lenb capb) m ∧ Six m) (hl : l.length = len) (hm : m.length = lenb) :
    Calls Tryz.prog 21 #[.slice (some ⟨g, 0, none⟩) 2 2] w fun e w' => Below w.heap.size w w' ∧ ∃ f, e = .returned (.int .i64 f) ∧ ChkR l m f := by
  refine (check_gen g 2 (fun j => if j = 0 then ao else bo) (fun j => if j = 0 then len else lenb) (fun j => if j = 0 then cap else capb) (fun j => if j = 0 then l else m) w (fun h => (hZ (h 0 (by decide)) (h 1 (by decide))).1) (lies.lt hc) (by decide) (fun j hj => ?_) (fun h j hj => ?_)).mono ?_
  · rcases (by omega : j = 0 ∨ j = 1) with rfl | rfl
    · exact lies.cell hc 0
    · exact lies.cell hc 1
  · have h0 : len ≤ 4096 := h 0 (by decide)
    have h1 : lenb ≤ 4096 := h 1 (by decide)
    rcases (by omega : j = 0 ∨ j = 1) with rfl | rfl
    · exact ⟨(hZ h0 h1).2.1.1, (hZ h0 h1).2.1.2, hl⟩
    · exact ⟨(hZ h0 h1).2.2.1, (hZ h0 h1).2.2.2, hm⟩
  · rintro e w' ⟨hB, f, rfl, ⟨⟨j, hj, hk⟩, rfl⟩ | ⟨hk, ⟨hy, rfl⟩ | ⟨⟨j, hj, z, hz, hy⟩, rfl⟩⟩⟩
    · refine ⟨hB, 4, rfl, .inl ⟨?_, rfl⟩⟩
      rcases (by omega : j = 0 ∨ j = 1) with rfl | rfl
      · exact .inl (by rw [hl]; exact hk)
      · exact .inr (by rw [hm]; exact hk)
    · exact ⟨hB, 0, rfl, .inr (.inr ⟨by rw [hl]; exact hk 0 (by decide), by rw [hm]; exact hk 1 (by decide), hy 0 (by decide), hy 1 (by decide), rfl⟩)⟩
    · refine ⟨hB, 8, rfl, .inr (.inl ⟨by rw [hl]; exact hk 0 (by decide), by rw [hm]; exact hk 1 (by decide), fun q => ?_, rfl⟩)⟩
      rcases (by omega : j = 0 ∨ j = 1) with rfl | rfl
      · exact hy (q.1 z hz)
      · exact hy (q.2 z hz)

set_option maxRecDepth 100000 in
set_option maxHeartbeats 4000000 in
/-- slices.Clone. -/
theorem clone_zones (ao : Option Addr) (len cap : Nat) (zs : List (List Int)) (w : World) (hI : Zs w.heap.size w (.slice ao len cap) zs) (hl : zs.length = len) (hm : len ≤ 1000000) :
    Calls Tryz.prog 22 #[.slice ao len cap] w fun e w' => ∃ v, e = .returned v ∧ w'.ownsRow w.heap.size 24 6 v zs.length (flatZ zs) ∧ Below w.heap.size w w' := by
  have hnil : ∀ (w : World) (a : Option Addr) (n c n' c' : Nat), (binOp .eql 26 (.slice a n c) (.slice none n' c')).run Tryz.prog w = .ok (.bool a.isNone) w := fun w a n c n' c' => Lib.run_eql_slice_nil w _ _ a n c n' c' Tryz.underlying26
  cases ao with
  | none =>
    obtain rfl : zs = [] := by
      rcases hI with ⟨_, h⟩ | ⟨b, off, c, e, _⟩
      · exact h
      · injection e with e1; cases e1
    clear hI
    go_enter Tryz.func22, Tryz.ntmps22
    go_wp2_with fail
    go_ret
    exact ⟨_, rfl, World.ownsRow_nil _ _ _ _, Below.refl _ _⟩
  | some a =>
    have hA := bound.up1 w (.cells #[] 24)
    obtain ⟨v, w1, hrun, own, hgrow, -⟩ := app_zones w.heap.size 26 (.slice (some ⟨w.heap.size, 0, none⟩) 0 0) (.slice (some a) len cap) 0 _ [] zs (w.alloc (.cells #[] 24)) (own_nil6 w _) (hI.on hA) (by omega) hA.size
    have hB : Below w.heap.size w w1 := held_grown hA hA.size (own_nil6 w 24) (Nat.le_refl _) hgrow
    rw [Nat.zero_add, List.nil_append] at own
    have HRUN := Lib.hid hrun
    have HOWN := Lib.hid own
    clear hrun own hgrow hI hA
    go_enter Tryz.func22, Tryz.ntmps22
    obtain ⟨ab, aoff, asp⟩ := a
    go_wp2_with (at_builtin; refine dref.append_run2 rfl (.tmp 5) (.tmp 6) 26 rfl _ _ _ _ rfl rfl HRUN.out ?_; clear HRUN)
    go_ret
    exact ⟨_, rfl, HOWN.out, hB⟩

/-- slices.Grow of none. -/
theorem grow_zones (n : Nat) (w : World) (hm : n ≤ 1000000) :
    Calls Tryz.prog 45 #[.slice none 0 0, .int .i64 n] w fun e w' => ∃ v, e = .returned v ∧ w'.ownsRow w.heap.size 24 6 v 0 [] ∧ Below w.heap.size w w' := by
  by_cases h0 : n = 0
  · subst h0
    refine (Any8.slices_Grow_room Tryz.growZ none 0 0 0 w (Nat.le_refl _) (by decide) (by decide) (Nat.le_refl _)).mono ?_
    rintro e w' ⟨rfl, rfl⟩
    exact ⟨_, rfl, World.ownsRow_nil _ _ _ _, Below.refl _ _⟩
  · obtain ⟨i, hi, hz, hs, hby⟩ := info_parts info_z
    refine (Any8.slices_Grow_grow Tryz.growZ i _ hi hz (by omega) none 0 0 n [] w (Nat.le_refl _) (by omega) (by rw [hby]; omega) (by omega) (by simp) (fun _ => rfl) (fun a h => by cases h)).mono ?_
    rintro e w' ⟨rfl, rfl⟩
    have hB := bound.up1 w.drew (.cells (([] : List Value).toArray ++ Builtin.zeroCells (Value.agg #[.int .i64 0, .int .i64 0, .int .i64 0, .int .i64 0, .int .i64 0, .int .i64 0]).cells (0 + n - 0) ++ Builtin.zeroCells (Value.agg #[.int .i64 0, .int .i64 0, .int .i64 0, .int .i64 0, .int .i64 0, .int .i64 0]).cells (grownCap w (0 + n) 0 24 - (0 + n))) 24)
    refine ⟨_, rfl, ⟨rfl, .inr ⟨w.heap.size, _, _, rfl, Nat.le_refl _, World.alloc_heap_new w.drew _, Nat.zero_le _, grownCap_le_maxLen w _ _ _ (by unfold maxLen; omega), ?_, by simp⟩⟩, (Below.refl _ _).drew.trans hB⟩
    have := grownCap_ge w (0 + n) 0 24
    rw [Array.size_append, Array.size_append, size_zeroCells, size_zeroCells]
    show 0 + (0 + n - 0) * 6 + (grownCap w (0 + n) 0 24 - (0 + n)) * 6 = grownCap w (0 + n) 0 24 * 6
    omega
set_option maxRecDepth 100000 in
set_option maxHeartbeats 8000000 in
/-- is a zone covered by some, of what may be? -/
theorem covered_any (z0 z1 z2 z3 z4 z5 : Int) (ao : Option Addr) (len cap : Nat) (l : List (List Int)) (w : World) (hP : Pl w) (ta : Tops [z0, z1, z2, z3, z4, z5]) (hI : Zs w.heap.size w (.slice ao len cap) l) (h6 : Six l) (hl : l.length = len) (hm : len ≤ 1000000) (ma : MayZ [z0, z1, z2, z3, z4, z5]) (ml : ∀ x, x ∈ l → MayZ x) :
    Calls Tryz.prog 26 #[.agg #[.int .i64 z0, .int .i64 z1, .int .i64 z2, .int .i64 z3, .int .i64 z4, .int .i64 z5], .slice ao len cap] w fun e w' => Below w.heap.size w w' ∧ ∃ (is : Bool) (f : Int), e = .returned (.tuple #[.bool is, .int .i64 f]) ∧ CovX RestP [z0, z1, z2, z3, z4, z5] l is f := by
  obtain ⟨w0, hX⟩ : ∃ w0, w0 = w.alloc (.cells #[.int .i64 z0, .int .i64 z1, .int .i64 z2, .int .i64 z3, .int .i64 z4, .int .i64 z5] 24) := ⟨_, rfl⟩
  have DB : Below w.heap.size w w0 := by rw [hX]; exact bound.up1 _ _
  have P0 := hP.on DB
  have HTA := Lib.hid ta
  have HI := Lib.hid hI
  have H6 := Lib.hid h6
  have HL := Lib.hid hl
  have HMA := Lib.hid ma
  have HML := Lib.hid ml
  clear hP ta hI h6 hl ma ml
  go_enter Tryz.func26, Tryz.ntmps26
  go_wp2_with fail
  rw [← hX]
  clear hX
  refine (left_any z0 z1 z2 z3 z4 z5 ao len cap l w0 P0 HTA.out ((HI.out.below DB).mono DB.size) H6.out HL.out hm).mono ?_
  rintro e w1 ⟨hB, v, r, f, rfl, hR, hO⟩
  replace DB := later DB hB
  obtain ⟨av, cv, rfl⟩ := zs_len (zs_own hO)
  have hr : RestP l [[z0, z1, z2, z3, z4, z5]] r f := by
    rcases hR with ⟨k, _⟩ | ⟨_, _, k⟩
    · exact (k ⟨HMA.out, HML.out⟩).elim
    · exact k
  have HR := Lib.hid hr
  clear hR hr hO hB P0
  by_cases h0 : f = 0
  · subst h0
    generalize hmm : r.length = m
    have HM := Lib.hid hmm
    clear hmm
    by_cases hm0 : m = 0
    · subst hm0
      go_wp2_with fail
      exact bodyPost_ret (v := .tuple #[.bool true, .int .i64 0]) (by simp [results, Tryz.results26, go_sem]) rfl ⟨DB, true, 0, rfl, r, HR.out, by simp [List.length_eq_zero_iff.1 HM.out]⟩
    · have hm1 : ¬ (m : Int) = 0 := by omega
      go_wp2_with fail
      exact bodyPost_ret (v := .tuple #[.bool false, .int .i64 0]) (by simp [results, Tryz.results26, go_sem, hm0]) rfl ⟨DB, false, 0, rfl, r, HR.out, by
        symm
        refine decide_eq_false fun q => hm0 ?_
        rw [← HM.out, q.2]
        rfl⟩
  · go_wp2_with fail
    exact bodyPost_ret (v := .tuple #[.bool false, .int .i64 f]) (by simp [results, Tryz.results26, go_sem]) rfl ⟨DB, false, f, rfl, r, HR.out, by
      symm
      exact decide_eq_false fun q => h0 q.1⟩
end Go.Proofs.YthljhijcmdnonaaGreatDoor.cover
