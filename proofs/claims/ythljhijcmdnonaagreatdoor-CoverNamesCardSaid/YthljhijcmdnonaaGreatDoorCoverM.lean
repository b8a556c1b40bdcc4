
/-
  What slices.Concat makes of two lists of zones: a list of one's own; the conditions are the theorem's own.
-/
import Derived.Test.YthljhijcmdnonaaGreatDoorCoverD
namespace Go.Proofs.YthljhijcmdnonaaGreatDoor.cover
open Go.Joins Go.ChangeShapes Go.WideShapes Go.ChangeAt Go.RowKit num rat dbm Go.Proofs.YthljhijcmdnonaaGreatDoor.tight Go.Proofs.YthljhijcmdnonaaGreatDoor.incl Go.Proofs.YthljhijcmdnonaaGreatDoor.plaw Go.Proofs.YthljhijcmdnonaaGreatDoor.zopen Go.Proofs.YthljhijcmdnonaaGreatDoor.zone Go.Proofs.YthljhijcmdnonaaGreatDoor.win Go.Proofs.YthljhijcmdnonaaGreatDoor.minus Go.Proofs.YthljhijcmdnonaaGreatDoor.mz Go.Proofs.YthljhijcmdnonaaGreatDoor.mlaw
open bound hiding up
set_option linter.unusedVariables false
set_option linter.unusedSimpArgs false
set_option linter.unusedSectionVars false

set_option maxRecDepth 100000 in
set_option maxHeartbeats 16000000 in
theorem concat_zones (g : Nat) (ao : Option Addr) (len cap : Nat) (bo : Option Addr) (lenb capb : Nat) (x y : List (List Int)) (w : World) (hc : lies.Lies w g 26 #[.slice ao len cap, .slice bo lenb capb])
    (hI : Zs w.heap.size w (.slice ao len cap) x) (hJ : Zs w.heap.size w (.slice bo lenb capb) y) (hl : x.length = len) (hm : y.length = lenb) (hs : len + lenb ≤ 1000000) :
    Calls Tryz.prog 25 #[.slice (some ⟨g, 0, none⟩) 2 2] w fun e w' => ∃ v, e = .returned v ∧ w'.ownsRow w.heap.size 24 6 v (x ++ y).length (flatZ (x ++ y)) ∧ Below w.heap.size w w' := by
  have hg := lies.lt hc
  have HA := Lib.hid (show ∀ k, k < 2 → ∃ (a : Option Addr) (n c : Nat) (z : List (List Int)), w.cell? ⟨g, k, none⟩ = some (.slice a n c) ∧ Zs w.heap.size w (.slice a n c) z ∧ z.length = n ∧ ((k = 0 ∧ n = len ∧ z = x) ∨ (k = 1 ∧ n = lenb ∧ z = y)) from fun k hk => by
    rcases (by omega : k = 0 ∨ k = 1) with rfl | rfl
    · exact ⟨ao, len, cap, x, lies.cell hc 0, hI, hl, .inl ⟨rfl, rfl, rfl⟩⟩
    · exact ⟨bo, lenb, capb, y, lies.cell hc 1, hJ, hm, .inr ⟨rfl, rfl, rfl⟩⟩)
  have HLX := Lib.hid hl
  have HLY := Lib.hid hm
  clear hc hI hJ hl hm
  go_enter Tryz.func25, Tryz.ntmps25
  go_wp2_with fail
  go_loopw [11, 3] (fun i s wr => ∃ k S : Nat, k ≤ 2 ∧ S ≤ 1000000 ∧ i = .int .i64 k ∧ s = .int .i64 S ∧ Below w.heap.size w wr ∧ RowKit.Hid ((k = 0 → S = 0) ∧ (k = 1 → S = len) ∧ (k = 2 → S = len + lenb))) (fun i _ _ => 2 - (intOf i).toNat)
  case atStart => exact ⟨0, 0, Nat.zero_le _, Nat.zero_le _, rfl, rfl, Below.refl _ _, Lib.hid ⟨fun _ => rfl, fun e => absurd e (by decide), fun e => absurd e (by decide)⟩⟩
  case round =>
    obtain ⟨k, S, hk, hS, rfl, rfl, hB, HS⟩ := hrel
    by_cases hkn : k < 2
    · obtain ⟨a, n, c, z, h1, h2, h3, h4⟩ := HA.out k hkn
      have c0 := (hB.cell (p := ⟨g, k, none⟩) hg).trans h1
      have hgr : g < wr.heap.size := Nat.lt_of_lt_of_le hg hB.size
      obtain ⟨S1, hS1⟩ : ∃ T, T = S + n := ⟨_, rfl⟩
      have hSn : S1 ≤ 1000000 ∧ ((k = 0 ∧ S1 = len) ∨ (k = 1 ∧ S1 = len + lenb)) := by
        have := HS.out
        rcases h4 with ⟨e1, e2, _⟩ | ⟨e1, e2, _⟩
        · have := this.1 e1; omega
        · have := this.2.1 e1; omega
      have hw : wrap64 ((S : Int) + (n : Int)) = (S1 : Int) := by
        have q := hSn.1
        clear hSn h4 hk hkn
        rw [hS1] at q ⊢
        exact IntWalk.wrap64_in _ ⟨by omega, by omega⟩
      have hS0 : ¬ (S1 : Int) < 0 := Int.not_lt.2 (Int.natCast_nonneg _)
      have hk' : (k : Int) < 2 := by omega
      have HN := Lib.hid hSn
      clear h1 h2 h3 h4 hS1 hSn
      go_wp2_with fail
      go_roundw
      case rel =>
        have q := HN.out
        exact ⟨k + 1, S1, by omega, q.1, by go_num, (by rw [hw]), hB, Lib.hid ⟨fun e => by omega, fun e => by omega, fun e => by omega⟩⟩
      case measure => simp [intOf]; omega
    · have hk2 : k = 2 := by omega
      have HS2 := Lib.hid (HS.out.2.2 hk2)
      have hk' : ¬ (k : Int) < 2 := by omega
      go_wp2_with fail
      clear hk' hk hkn HS
      refine (grow_zones S wr hS).mono ?_
      rintro e w1 ⟨v, rfl, hO, hB1⟩
      have hO' := own_far hO hB.size (fun _ _ _ q => q)
      replace hB := later hB hB1
      clear hB1 hO
      go_wp2_with fail
      go_loopw [27, 6] (fun i v wq => ∃ (k : Nat) (cur : List (List Int)), k ≤ 2 ∧ i = .int .i64 k ∧ Below w.heap.size w wq ∧ wq.ownsRow w.heap.size 24 6 v cur.length (flatZ cur) ∧ RowKit.Hid ((k = 0 → cur = []) ∧ (k = 1 → cur = x) ∧ (k = 2 → cur = x ++ y))) (fun i _ _ => 2 - (intOf i).toNat)
      case atStart => exact ⟨0, [], by decide, rfl, hB, hO', Lib.hid ⟨fun _ => rfl, fun e => absurd e (by decide), fun e => absurd e (by decide)⟩⟩
      case round =>
        clear hB hO'
        obtain ⟨k, cur, hk, rfl, hB, hO, HC⟩ := hrel
        by_cases hkn : k < 2
        · obtain ⟨a, n, c, z, h1, h2, h3, h4⟩ := HA.out k hkn
          have c0 := (hB.cell (p := ⟨g, k, none⟩) hg).trans h1
          have hgr : g < wr.heap.size := Nat.lt_of_lt_of_le hg hB.size
          have hk' : (k : Int) < 2 := by omega
          have hcz : cur.length + z.length ≤ 1000000 ∧ ((k = 0 ∧ cur ++ z = x) ∨ (k = 1 ∧ cur ++ z = x ++ y)) := by
            have q := HC.out
            have q1 := HLX.out
            have q2 := HLY.out
            rcases h4 with ⟨e1, e2, e3⟩ | ⟨e1, e2, e3⟩
            · rw [q.1 e1, e3]
              exact ⟨by show 0 + _ ≤ _; omega, .inl ⟨e1, rfl⟩⟩
            · rw [q.2.1 e1, e3]
              exact ⟨by omega, .inr ⟨e1, rfl⟩⟩
          obtain ⟨av, cv, rfl⟩ := zs_len (zs_own hO)
          obtain ⟨v1, w2, hrun, own, hgrow, -⟩ := app_zones w.heap.size 26 (.slice av cur.length cv) (.slice a n c) cur.length w.heap.size (flatZ cur) z wr hO (h2.below hB) hcz.1 hB.size
          have hB2 := held_grown hB hB.size hO (Nat.le_refl _) hgrow
          have HRUN := Lib.hid hrun
          have HOWN := Lib.hid (show w2.ownsRow w.heap.size 24 6 v1 (cur ++ z).length (flatZ (cur ++ z)) by rw [List.length_append, flatZ_app]; exact own)
          have HCZ := Lib.hid hcz
          clear h1 h2 h3 h4 hrun own hgrow hO hcz hB
          generalize cur.length = m at HRUN ⊢
          go_wp2_with (at_builtin; refine dref.append_run2 rfl (.tmp 31) (.tmp 32) 26 rfl _ _ _ _ rfl rfl HRUN.out ?_; clear HRUN)
          go_roundw
          case rel =>
            have q := HCZ.out
            exact ⟨k + 1, cur ++ z, by omega, by go_num, hB2, HOWN.out, Lib.hid ⟨fun e => by omega, fun e => by rcases q.2 with ⟨_, q⟩ | ⟨q, _⟩; exact q; omega, fun e => by rcases q.2 with ⟨q, _⟩ | ⟨_, q⟩; omega; exact q⟩⟩
          case measure => simp [intOf]; omega
        · have hk2 : k = 2 := by omega
          have hk' : ¬ (k : Int) < 2 := by omega
          have e := HC.out.2.2 hk2
          rw [e] at hO
          have HOW := Lib.hid hO
          clear hO e
          go_wp2_with fail
          go_ret
          have hO := HOW.out
          rw [List.length_append] at hO
          exact ⟨_, rfl, hO, hB⟩
end Go.Proofs.YthljhijcmdnonaaGreatDoor.cover
