/-
  DbmKept's walk where the matrix may be and is empty; the conditions: the numbers are ints, in memory.
-/
import Derived.Test.YtlagnbbbokgdfaaDbmKept0
namespace Go.Proofs.Ytlagnbbbokgdfaa.dbmKept
open Go.ChangeShapes Go.WideShapes Go.ChangeAt Go.RowKit num dbm dlaw rat
open bound hiding up
set_option linter.unusedVariables false
set_option linter.unusedSimpArgs false

set_option maxRecDepth 100000 in
set_option maxHeartbeats 1000000 in
theorem walk_none (n b off cap : Nat) (tv : Value) (ts : List Int) (rs : List (Int × Int)) (w : World) (h0 : 0 < n) (hn : n ≤ 4) (hr : Row w b off ts) (hb : b < w.heap.size) (htop : Tops ts) (hm : MayD n ts) (hl : ts.length = n * n)
    (hR : Rats w.heap.size w tv rs) (hi : IntsR rs) (h2 : rs.length ≤ 100) (k : Nat) (hk : k ≤ n) (hem : emp n (tabs n h0 ts k)) :
    Calls Try.prog 6 #[.agg #[.int .i64 n, .slice (some ⟨b, off, none⟩) (n * n) cap], tv] w fun e w' => e = .returned (.bool true) ∧ Below w.heap.size w w' := by
  have hsq := sq_le hn
  have hsq0 : 0 < n * n := Nat.mul_pos h0 h0
  obtain ⟨a', cap', rfl⟩ := rats_len hR
  have D0 := lies.made w 27 #[.int .i64 n, .slice (some ⟨b, off, none⟩) (n * n) cap]
  have t1 : ¬ (1000 : Int) < (n : Int) * n := by rw [← Int.natCast_mul]; omega
  have t2 : ¬ (100 : Int) < rs.length := by omega
  have HR := Lib.hid hr
  have HT := Lib.hid htop
  have HM := Lib.hid hm
  have HL := Lib.hid hl
  have HRR := Lib.hid hR
  have HII := Lib.hid hi
  have HE := Lib.hid hem
  clear hr htop hm hl hR hi hem
  go_enter Try.func6, Try.ntmps6
  go_wp2_with fail
  refine (alive_yes _).mono ?_
  rintro e w1 ⟨rfl, hB1⟩
  have D1 := lies.on_call D0 hB1
  have K1 : Below w.heap.size w w1 := ((Below.refl _ w).alloc (Nat.le_refl _) _).trans (hB1.mono (by simp))
  obtain ⟨c0, c1, c2, c3, c4⟩ := lies.two D1
  clear D0 hB1
  go_wp2_with fail
  refine (dkeeps_any n _ _ ts rs _ (.inr ⟨b, off, cap, by rw [HL.out], Nat.lt_of_lt_of_le hb K1.size, HR.out.below K1 hb⟩) (by rw [HL.out]; omega) HT.out ((HRR.out.below K1).mono K1.size) HII.out (by omega)).mono ?_
  rintro e w2 ⟨hB2, r, c, rfl, hc⟩
  obtain rfl : r = false := by
    rcases hc with ⟨_, h, _⟩ | ⟨_, h, _⟩ | ⟨_, _, hmt, hd, h⟩
    · exact h
    · exact h
    · cases r with
      | false => rfl
      | true => exact (kept_closed h0 hn HL.out HT.out HM.out.2.2.2 (with_zero HII.out hmt).2 (by simp; omega) (h.1 rfl) k hk HE.out).elim
  have D2 := lies.on_call D1 hB2
  have K2 := K1.trans (hB2.mono K1.size)
  clear D1 hB2 K1 c0 c1 c2 c3 c4 hc
  obtain ⟨c0, c1, c2, c3, c4⟩ := lies.two D2
  go_wp2_with fail
  refine (close_ok n b off cap ts _ h0 (HR.out.below K2 hb) (Nat.lt_of_lt_of_le hb K2.size) HT.out HM.out HL.out hn).mono ?_
  rintro e w3 ⟨hB3, ⟨k', _, _, rfl⟩ | ⟨hne, _⟩⟩
  · have K3 := K2.trans (hB3.mono K2.size)
    have K4 := K3.alloc K3.size (.cells #[.int .i64 0, .slice none 0 0] 27)
    clear D2 hB3 K2 c0 c1 c2 c3 c4
    go_wp2_with fail
    all_goals
      go_ret
      exact ⟨rfl, K4⟩
  · exact (hne k hk HE.out).elim
end Go.Proofs.Ytlagnbbbokgdfaa.dbmKept
