/-
  DbmKept's walk where there is little to say: more than it asks, and a matrix that may not be; the conditions: the numbers are ints, in memory.
-/
import Derived.Test.YtlagnbbbokgdfaaDbmKeptMath3
import Derived.Test.YtlagnbbbokgdfaaDbmLaw
import Derived.OpenShut
namespace Go.Proofs.Ytlagnbbbokgdfaa.dbmKept
open Go.ChangeShapes Go.WideShapes Go.ChangeAt Go.RowKit num dbm dlaw rat
open bound hiding up
set_option linter.unusedVariables false
set_option linter.unusedSimpArgs false

set_option maxRecDepth 100000 in
set_option maxHeartbeats 1000000 in
theorem walk_far (n : Int) (sv tv : Value) (ts : List Int) (rs : List (Int × Int)) (w : World) (hI : law.Ints w.heap.size w sv ts) (hR : Rats w.heap.size w tv rs) (h : 1000 < ts.length ∨ (ts.length ≤ 1000 ∧ 100 < rs.length)) : Calls Try.prog 6 #[.agg #[.int .i64 n, sv], tv] w fun e w' => e = .returned (.bool true) ∧ Below w.heap.size w w' := by
  obtain ⟨a, cap, rfl⟩ := ints_len hI
  obtain ⟨a', cap', rfl⟩ := rats_len hR
  clear hI hR
  have D0 := lies.made w 27 #[.int .i64 n, .slice a ts.length cap]
  rcases h with h | ⟨h, h2⟩
  · have t1 : (1000 : Int) < ts.length := by omega
    go_enter Try.func6, Try.ntmps6
    go_wp2_with fail
    refine (alive_yes _).mono ?_
    rintro e w1 ⟨rfl, hB1⟩
    have D1 := lies.on_call D0 hB1
    have K1 : Below w.heap.size w w1 := ((Below.refl _ w).alloc (Nat.le_refl _) _).trans (hB1.mono (by simp))
    obtain ⟨c0, c1, c2, c3, c4⟩ := lies.two D1
    clear D0 D1 hB1
    go_wp2_with fail
    go_ret
    exact ⟨rfl, K1⟩
  · have t1 : ¬ (1000 : Int) < ts.length := by omega
    have t2 : (100 : Int) < rs.length := by omega
    go_enter Try.func6, Try.ntmps6
    go_wp2_with fail
    refine (alive_yes _).mono ?_
    rintro e w1 ⟨rfl, hB1⟩
    have D1 := lies.on_call D0 hB1
    have K1 : Below w.heap.size w w1 := ((Below.refl _ w).alloc (Nat.le_refl _) _).trans (hB1.mono (by simp))
    obtain ⟨c0, c1, c2, c3, c4⟩ := lies.two D1
    clear D0 D1 hB1
    go_wp2_with fail
    go_ret
    exact ⟨rfl, K1⟩

set_option maxRecDepth 100000 in
set_option maxHeartbeats 1000000 in
theorem walk_bad (n : Int) (sv tv : Value) (ts : List Int) (rs : List (Int × Int)) (w : World) (hI : law.Ints w.heap.size w sv ts) (htop : Tops ts) (hR : Rats w.heap.size w tv rs) (h : ts.length ≤ 1000) (h2 : rs.length ≤ 100) (hm : ¬ MayD n ts) : Calls Try.prog 6 #[.agg #[.int .i64 n, sv], tv] w fun e w' => e = .returned (.bool true) ∧ Below w.heap.size w w' := by
  obtain ⟨a, cap, rfl⟩ := ints_len hI
  obtain ⟨a', cap', rfl⟩ := rats_len hR
  have D0 := lies.made w 27 #[.int .i64 n, .slice a ts.length cap]
  have t1 : ¬ (1000 : Int) < ts.length := by omega
  have t2 : ¬ (100 : Int) < rs.length := by omega
  have HI := Lib.hid hI
  have HT := Lib.hid htop
  have HM := Lib.hid hm
  clear hI htop hm hR
  go_enter Try.func6, Try.ntmps6
  go_wp2_with fail
  refine (alive_yes _).mono ?_
  rintro e w1 ⟨rfl, hB1⟩
  have D1 := lies.on_call D0 hB1
  have K1 : Below w.heap.size w w1 := ((Below.refl _ w).alloc (Nat.le_refl _) _).trans (hB1.mono (by simp))
  obtain ⟨c0, c1, c2, c3, c4⟩ := lies.two D1
  clear D0 hB1
  go_wp2_with fail
  refine (dkeeps_bad n _ _ ts _ ((HI.out.below K1).mono K1.size) (by omega) HT.out HM.out).mono ?_
  rintro e w2 ⟨rfl, hB2⟩
  have D2 := lies.on_call D1 hB2
  have K2 := K1.trans (hB2.mono K1.size)
  clear D1 hB2 K1 c0 c1 c2 c3 c4
  obtain ⟨c0, c1, c2, c3, c4⟩ := lies.two D2
  go_wp2_with fail
  refine (close_bad n _ ts _ ((HI.out.below K2).mono K2.size) (by omega) HT.out HM.out).mono ?_
  rintro e w3 ⟨rfl, hB3⟩
  have K3 := K2.trans (hB3.mono K2.size)
  have K4 := K3.alloc K3.size (.cells #[.int .i64 0, .slice none 0 0] 27)
  clear D2 hB3 K2 c0 c1 c2 c3 c4
  go_wp2_with fail
  go_ret
  exact ⟨rfl, K4⟩
end Go.Proofs.Ytlagnbbbokgdfaa.dbmKept
