/-
  The document's own answers of layer 4: whether two matrices are the same; the conditions: their bounds lie in memory.
-/
import Derived.Test.YtlagnbbbokgdfaaLies
import Derived.Test.YtlagnbbbokgdfaaDbmCheck
import Derived.BigQuiet
namespace Go.Proofs.Ytlagnbbbokgdfaa.dref
open Go.ChangeShapes Go.WideShapes Go.ChangeAt Go.RowKit num dbm
open bound hiding up
set_option linter.unusedVariables false

theorem same_clocks (n m : Int) (a c : Option Addr) (l k cap dap : Nat) (w : World) (h : n ≠ m) :
    Calls Try.prog 17 #[.agg #[.int .i64 n, .slice a l cap], .agg #[.int .i64 m, .slice c k dap]] w fun e w' => e = .returned (.bool false) ∧ Below w.heap.size w w' := by
  have t1 : ((n : Int) != m) = true := by simpa using h
  clear h
  go_enter Try.func17, Try.ntmps17
  go_wp2
  go_ret
  exact ⟨rfl, bound.up2 _ _ _⟩
theorem same_lens (n : Int) (a c : Option Addr) (l k cap dap : Nat) (w : World) (h : l ≠ k) :
    Calls Try.prog 17 #[.agg #[.int .i64 n, .slice a l cap], .agg #[.int .i64 n, .slice c k dap]] w fun e w' => e = .returned (.bool false) ∧ Below w.heap.size w w' := by
  have t1 : ((l : Int) != k) = true := by simp; omega
  have t2 : ((n : Int) != n) = false := by simp
  go_enter Try.func17, Try.ntmps17
  go_wp2
  go_ret
  exact ⟨rfl, bound.up2 _ _ _⟩
theorem same_nil (n : Int) (a c : Option Addr) (cap dap : Nat) (w : World) :
    Calls Try.prog 17 #[.agg #[.int .i64 n, .slice a 0 cap], .agg #[.int .i64 n, .slice c 0 dap]] w fun e w' => e = .returned (.bool true) ∧ Below w.heap.size w w' := by
  have t2 : ((n : Int) != n) = false := by simp
  go_enter Try.func17, Try.ntmps17
  go_wp2
  go_loop [5] (fun i => i = .int .i64 0) (fun _ => 0)
  case atStart => rfl
  case round =>
    obtain rfl := hrel
    go_wp2
    go_ret
    exact ⟨rfl, bound.up2 _ _ _⟩

set_option maxRecDepth 100000 in
set_option maxHeartbeats 2000000 in
theorem same_rows (n : Int) (b off cap g pff dap len : Nat) (ts us : List Int) (w : World) (hr : Row w b off ts) (hb : b < w.heap.size) (hs : Row w g pff us) (hg : g < w.heap.size) (hl : ts.length = len) (hk : us.length = len) (hm : len ≤ 1000000) :
    Calls Try.prog 17 #[.agg #[.int .i64 n, .slice (some ⟨b, off, none⟩) len cap], .agg #[.int .i64 n, .slice (some ⟨g, pff, none⟩) len dap]] w fun e w' => e = .returned (.bool (decide (ts = us))) ∧ Below w.heap.size w w' := by
  have t2 : ((n : Int) != n) = false := by simp
  have t3 : ((len : Int) != len) = false := by simp
  have HR := Lib.hid hr
  have HS := Lib.hid hs
  have HL := Lib.hid hl
  have HK := Lib.hid hk
  clear hr hs hl hk
  have r0 := lies.on_alloc (lies.made w 27 #[.int .i64 n, .slice (some ⟨b, off, none⟩) len cap]) (.cells #[.int .i64 n, .slice (some ⟨g, pff, none⟩) len dap] 27)
  have r1 := lies.made_at (w.alloc (.cells #[.int .i64 n, .slice (some ⟨b, off, none⟩) len cap] 27)) 27 #[.int .i64 n, .slice (some ⟨g, pff, none⟩) len dap] (w.heap.size + 1) (World.size_alloc _ _)
  go_enter Try.func17, Try.ntmps17
  go_wp2
  go_loopw [5] (fun i wr => ∃ k : Nat, k ≤ len ∧ i = .int .i64 k ∧ RowKit.Hid (∀ p, p < k → ts[p]?.getD 0 = us[p]?.getD 0) ∧ lies.Lies wr w.heap.size 27 #[.int .i64 n, .slice (some ⟨b, off, none⟩) len cap] ∧ lies.Lies wr (w.heap.size + 1) 27 #[.int .i64 n, .slice (some ⟨g, pff, none⟩) len dap] ∧ Below w.heap.size w wr)
    (fun i _ => len - (intOf i).toNat)
  case atStart => exact ⟨0, Nat.zero_le _, rfl, Lib.hid (fun m hm => absurd hm (by omega)), r0, r1, bound.up2 _ _ _⟩
  case round =>
    obtain ⟨k, hk, rfl, heq, q0, q1, hB⟩ := hrel
    obtain ⟨c0, c1, f0, f1, hlt⟩ := lies.two q0
    obtain ⟨d0, d1, e0, e1, hlu⟩ := lies.two q1
    clear r0 r1
    by_cases hkn : k < len
    · have hc := (HR.out.below hB hb) k (by rw [HL.out]; exact hkn)
      have hd := (HS.out.below hB hg) k (by rw [HK.out]; exact hkn)
      have z1 : (0 : Int) ≤ k := by omega
      have z2 : (k : Int) < len := by omega
      generalize hx : ts[k]?.getD 0 = x at hc
      generalize hy : us[k]?.getD 0 = y at hd
      have HX := Lib.hid hx
      have HY := Lib.hid hy
      clear hx hy
      by_cases hxy : x = y
      · obtain rfl : x = y := hxy
        have t4 : ((x : Int) != x) = false := by simp
        go_wp2_with fail
        go_quiet (fail)
        go_wp2
        go_roundw
        case rel => exact ⟨k + 1, by omega, by go_num, Lib.hid (fun m hm => by
          by_cases e : m = k
          · subst e; rw [HX.out, HY.out]
          · exact heq.out m (by omega)), q0, q1, bound.drawn hB _⟩
        case measure => simp [intOf]; omega
      · have t4 : ((x : Int) != y) = true := by simpa using hxy
        have hne : RowKit.Hid (decide (ts = us) = false) := Lib.hid (decide_eq_false (fun e => hxy (by rw [← HX.out, ← HY.out, e])))
        clear hxy
        go_wp2_with fail
        go_quiet (fail)
        go_wp2
        go_ret
        exact ⟨by rw [hne.out]; rfl, bound.drawn hB _⟩
    · obtain rfl : len = k := by omega
      have hyes : RowKit.Hid (decide (ts = us) = true) := Lib.hid (decide_eq_true (List.ext_getElem (by rw [HL.out, HK.out]) (fun i h1 h2 => by
        have := heq.out i (by rw [← HL.out]; exact h1)
        rwa [List.getElem?_eq_getElem h1, List.getElem?_eq_getElem h2] at this)))
      go_wp2
      go_ret
      exact ⟨by rw [hyes.out]; rfl, hB⟩
/-- are two matrices the same? -/
theorem same_any (n m : Int) (sv tv : Value) (ts us : List Int) (w : World) (hI : law.Ints w.heap.size w sv ts) (hJ : law.Ints w.heap.size w tv us) (hm : ts.length ≤ 1000000) :
    Calls Try.prog 17 #[.agg #[.int .i64 n, sv], .agg #[.int .i64 m, tv]] w fun e w' => e = .returned (.bool (decide (n = m ∧ ts = us))) ∧ Below w.heap.size w w' := by
  by_cases h1 : n = m
  · subst h1
    by_cases h2 : ts.length = us.length
    · have e : decide (n = n ∧ ts = us) = decide (ts = us) := by simp
      rw [e]
      rcases hI with ⟨⟨a, cap, rfl, _⟩, rfl⟩ | ⟨b, off, cap, rfl, hb, hc⟩
      · obtain rfl : us = [] := List.eq_nil_of_length_eq_zero (by rw [← h2]; rfl)
        obtain ⟨c, dap, rfl⟩ := ints_len hJ
        have := same_nil n a c cap dap w
        simpa using this
      · rcases hJ with ⟨⟨c, dap, rfl, _⟩, rfl⟩ | ⟨g, pff, dap, rfl, hg, hd⟩
        · obtain rfl : ts = [] := List.eq_nil_of_length_eq_zero (by rw [h2]; rfl)
          have := same_nil n (some ⟨b, off, none⟩) c cap dap w
          simpa using this
        · rw [← h2]
          exact same_rows n b off cap g pff dap ts.length ts us w hc hb (fun p hp => hd p hp) hg rfl h2.symm hm
    · obtain ⟨a, cap, rfl⟩ := ints_len hI
      obtain ⟨c, dap, rfl⟩ := ints_len hJ
      rw [decide_eq_false (fun k => h2 (by rw [k.2]))]
      exact same_lens n a c _ _ cap dap w h2
  · obtain ⟨a, cap, rfl⟩ := ints_len hI
    obtain ⟨c, dap, rfl⟩ := ints_len hJ
    rw [decide_eq_false (fun k => h1 k.1)]
    exact same_clocks n m a c _ _ cap dap w h1
theorem same_true (n : Int) (sv tv : Value) (ts us : List Int) (w : World) (hI : law.Ints w.heap.size w sv ts) (hJ : law.Ints w.heap.size w tv us) (hm : ts.length ≤ 1000000) (h : ts = us) :
    Calls Try.prog 17 #[.agg #[.int .i64 n, sv], .agg #[.int .i64 n, tv]] w fun e w' => e = .returned (.bool true) ∧ Below w.heap.size w w' := by
  have := same_any n n sv tv ts us w hI hJ hm
  rwa [decide_eq_true (And.intro rfl h)] at this
end Go.Proofs.Ytlagnbbbokgdfaa.dref
