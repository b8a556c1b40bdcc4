
/-
  The document's own answers of layer 4 (rallentandoref04), and dbm.Same and Twin of any matrix; each theorem names its conditions.
-/
import Derived.Test.YthljhijcmdnonaaGreatDoorDbmC
import Derived.Test.YthljhijcmdnonaaGreatDoorBase
import Derived.Test.YthljhijcmdnonaaGreatDoorDbmB
import Derived.BigQuiet
import Derived.Test.YthljhijcmdnonaaGreatDoorDbmD
import Derived.Test.YthljhijcmdnonaaGreatDoorRatC
import Derived.Test.YthljhijcmdnonaaGreatDoorDbmA
import Derived.Deep.OwnRows
import Derived.Laws.CopyOwn
import Derived.WalkSpells
namespace Go.Proofs.YthljhijcmdnonaaGreatDoor.dref
open Go.ChangeShapes Go.WideShapes Go.ChangeAt Go.RowKit num dbm
open bound hiding up
set_option linter.unusedVariables false

/-- ints. -/
def Low (ts : List Int) : Prop := ∀ x ∈ ts, -9223372036854775808 ≤ x
end Go.Proofs.YthljhijcmdnonaaGreatDoor.dref

namespace Go.Proofs.YthljhijcmdnonaaGreatDoor.dref
open Go.ChangeShapes Go.WideShapes Go.ChangeAt Go.RowKit num dbm
open bound hiding up
set_option linter.unusedVariables false
set_option linter.unusedSimpArgs false

/-- a weight's bound. -/
def dec : way.B → Int
  | none => 9223372036854775807
  | some a => a
theorem place_int {n i j : Nat} (hn : n ≤ 4) (hi : i < n) (hj : j < n) : IntKind.i64.wrap ((i : Int) * n) = (i : Int) * n ∧ wrap64 ((i : Int) * n) = (i : Int) * n ∧ IntKind.i64.wrap ((i : Int) * n + j) = (i : Int) * n + j ∧ wrap64 ((i : Int) * n + j) = (i : Int) * n + j ∧ 0 ≤ (i : Int) * n + j ∧ (i : Int) * n + j < (n : Int) * n ∧ ((i : Int) * n + j).toNat = i * n + j := by
  have h1 := place_le hn hi hj
  have h2 := sq_le hn
  have e1 : (i : Int) * n = ((i * n : Nat) : Int) := (Int.natCast_mul i n).symm
  have e2 : (n : Int) * n = ((n * n : Nat) : Int) := (Int.natCast_mul n n).symm
  rw [e1, e2]
  generalize i * n = a at h1 ⊢
  generalize n * n = b at h1 h2 ⊢
  refine ⟨dbm.wrap_small (by omega) (by omega), ?_, dbm.wrap_small (by omega) (by omega), ?_, by omega, by omega, by omega⟩ <;> (unfold wrap64; omega)
/-- a matrix in memory that may be. -/
def MatI (n b off : Nat) (ts : List Int) (W : World) : Prop := Row W b off ts ∧ b < W.heap.size
theorem MatI.below {n b off : Nat} {ts : List Int} {W X : World} (h : MatI n b off ts W) (k : Below W.heap.size W X) : MatI n b off ts X := ⟨h.1.below k h.2, Nat.lt_of_lt_of_le h.2 k.size⟩

end Go.Proofs.YthljhijcmdnonaaGreatDoor.dref

namespace Go.Proofs.YthljhijcmdnonaaGreatDoor.dref
open Go.ChangeShapes Go.WideShapes Go.ChangeAt Go.RowKit num dbm
open bound hiding up
set_option linter.unusedVariables false
set_option linter.unusedSimpArgs false

/-- the way by each clock once. -/
def pwc (n : Nat) (ts : List Int) (i j : Nat) : way.B := way.pw (wts n ts) n j 15 (way.but n i) i
/-- the first p of the closed one. -/
def clP (n : Nat) (ts : List Int) (p : Nat) : List Int := (List.range p).map fun k => if k / n = k % n then 1 else dec (pwc n ts (k / n) (k % n))
/-- what lies there while it is made. -/
def ClI (n b off cap p : Nat) (ts : List Int) (w W : World) : Prop := ∃ a l c, lies.Lies W w.heap.size 76 #[.int .i64 n, .slice (some ⟨b, off, none⟩) (n * n) cap] ∧ lies.Lies W (w.heap.size + 1) 76 #[.int .i64 0, .slice none 0 0] ∧ lies.Lies W (w.heap.size + 1 + 1) 76 #[.int .i64 n, .slice a l c] ∧ W.ownsRow (w.heap.size + 1 + 1 + 1) 22 1 (.slice a l c) p ((clP n ts p).map (Value.int .i64)) ∧ Below w.heap.size w W
theorem ClI.below {n b off cap p : Nat} {ts : List Int} {w W X : World} (h : ClI n b off cap p ts w W) (k : Below W.heap.size W X) : ClI n b off cap p ts w X := by
  obtain ⟨a, l, c, h1, h2, h3, h4, h5⟩ := h
  refine ⟨a, l, c, lies.on_call h1 k, lies.on_call h2 k, lies.on_call h3 k, ?_, h5.trans (k.mono h5.size)⟩
  exact h4.kept (row := none) ⟨k.os, k.tape, k.output, k.size, fun i hi _ => k.block i hi⟩ (by cases (Value.slice a l c).ownBlock <;> simp)
/-- what Closed answers. -/
def CldR (n : Nat) (ts : List Int) (w : World) (e : Ending) (w' : World) : Prop := Below w.heap.size w w' ∧
  ((∃ x, x < n ∧ ¬ way.le way.one (pwc n ts x x)) ∧ e = .returned (.tuple #[.agg #[.int .i64 0, .slice none 0 0], .bool false]) ∨
   (∀ x, x < n → way.le way.one (pwc n ts x x)) ∧ ∃ v, e = .returned (.tuple #[.agg #[.int .i64 n, v], .bool true]) ∧ w'.ownsRow w.heap.size 22 1 v (n * n) ((clP n ts (n * n)).map (Value.int .i64)))

end Go.Proofs.YthljhijcmdnonaaGreatDoor.dref

namespace Go.Proofs.YthljhijcmdnonaaGreatDoor.dref
open Go.ChangeShapes Go.WideShapes Go.ChangeAt Go.RowKit num dbm
open bound hiding up
set_option linter.unusedVariables false
set_option linter.unusedSimpArgs false

section
variable {n : Nat} {ts : List Int}
end

/-- what Close answers. -/
def ClsR (n : Int) (ts : List Int) (w : World) (e : Ending) (w' : World) : Prop := Below w.heap.size w w' ∧
  ((¬ OkD n ts ∧ e = .returned (.tuple #[.agg #[.int .i64 0, .slice none 0 0], .int .i64 (if MayD n ts then 6 else 8)])) ∨
   (OkD n ts ∧ ∃ v, e = .returned (.tuple #[.agg #[.int .i64 n, v], .int .i64 0]) ∧ w'.ownsRow w.heap.size 22 1 v ts.length ((clT n ts).map (Value.int .i64))))

theorem box_res (n : Int) (sv : Value) (w : World) : Below w.heap.size w ((w.alloc (.cells #[.int .i64 n, sv] 76)).alloc (.cells #[.int .i64 0, .slice none 0 0] 76)) ∧ lies.Lies ((w.alloc (.cells #[.int .i64 n, sv] 76)).alloc (.cells #[.int .i64 0, .slice none 0 0] 76)) w.heap.size 76 #[.int .i64 n, sv] ∧ lies.Lies ((w.alloc (.cells #[.int .i64 n, sv] 76)).alloc (.cells #[.int .i64 0, .slice none 0 0] 76)) (w.heap.size + 1) 76 #[.int .i64 0, .slice none 0 0] :=
  ⟨bound.up2 _ _ _, lies.on_alloc (lies.made w _ _) _, lies.made_at _ _ _ _ (World.size_alloc _ _)⟩
theorem ret_res {B : Nat} {w W : World} (h : Below B w W) (hB : B ≤ w.heap.size + 1) (u v : Value) : Below B w ((W.setCell ⟨w.heap.size + 1, 0, none⟩ u).setCell ⟨w.heap.size + 1, 1, none⟩ v) :=
  (h.setCell (p := ⟨w.heap.size + 1, 0, none⟩) hB _).setCell (p := ⟨w.heap.size + 1, 1, none⟩) hB _

end Go.Proofs.YthljhijcmdnonaaGreatDoor.dref

namespace Go.Proofs.YthljhijcmdnonaaGreatDoor.dref
open Go.ChangeShapes Go.WideShapes Go.ChangeAt Go.RowKit num dbm rat
open bound hiding up
set_option linter.unusedVariables false
set_option linter.unusedSimpArgs false

theorem append_run2 {P : Program} {w : World} {ops : Array Oper} {rest : List Oper} {o : Oper} {a : Act} {Q : Exit → Act → World → Prop} (hgd : o.guard = none) (s x : Operand) (t : TypeId)
    (ho : o.op = .call { callee := .builtin .append, args := #[s, x], argTypes := #[t, t] }) (v u v' : Value) (w' : World) (hs : a.eval s = v) (hx : a.eval x = u)
    (hr : (Builtin.append_ #[t, t] o.type #[v, u]).run P w = .ok v' w') (h : wpList P ops Q rest (a.put o.dst v') w') : wpList P ops Q (o :: rest) a w :=
  wpList_plain hgd fun K hK => by
    unfold Oper.wp execOp
    simp only [ho, resolve, invoke, builtin, Sem.run_bind, Sem.run_pure, Result.andThen_ok, List.map_toArray, List.map_cons, List.map_nil, hs, hx, hr]
    exact hK _ _ h

/-- what lies there while times are held against bounds. -/
def KpI (n b off cap g : Nat) (qs : List (Int × Int)) (w W : World) : Prop := lies.Lies W w.heap.size 76 #[.int .i64 n, .slice (some ⟨b, off, none⟩) (n * n) cap] ∧ RowR W g 0 qs ∧ g < W.heap.size ∧ Below w.heap.size w W
theorem KpI.below {n b off cap g : Nat} {qs : List (Int × Int)} {w W X : World} (h : KpI n b off cap g qs w W) (k : Below W.heap.size W X) : KpI n b off cap g qs w X :=
  ⟨lies.on_call h.1 k, h.2.1.below k h.2.2.1, Nat.lt_of_lt_of_le h.2.2.1 k.size, h.2.2.2.trans (k.mono h.2.2.2.size)⟩

end Go.Proofs.YthljhijcmdnonaaGreatDoor.dref

namespace Go.Proofs.YthljhijcmdnonaaGreatDoor.dref
open Go.ChangeShapes Go.WideShapes Go.ChangeAt Go.RowKit num dbm rat
open bound hiding up
set_option linter.unusedVariables false
set_option linter.unusedSimpArgs false

end Go.Proofs.YthljhijcmdnonaaGreatDoor.dref

namespace Go.Proofs.YthljhijcmdnonaaGreatDoor.dbm
open Go.ChangeShapes Go.WideShapes Go.ChangeAt Go.RowKit num
open bound hiding up
set_option linter.unusedVariables false

theorem equal_lens (a c : Option Addr) (l k cap dap : Nat) (w : World) (h : l ≠ k) :
    Calls Tryz.prog 109 #[.slice a l cap, .slice c k dap] w fun e w' => e = .returned (.bool false) ∧ Below w.heap.size w w' := by
  have t1 : ((l : Int) != k) = true := by simp; omega
  go_enter Tryz.func109, Tryz.ntmps109
  go_wp2
  go_ret
  exact ⟨rfl, Below.refl _ _⟩
theorem equal_nil (a c : Option Addr) (cap dap : Nat) (w : World) :
    Calls Tryz.prog 109 #[.slice a 0 cap, .slice c 0 dap] w fun e w' => e = .returned (.bool true) ∧ Below w.heap.size w w' := by
  go_enter Tryz.func109, Tryz.ntmps109
  go_wp2
  go_loop [13] (fun i => i = .int .i64 0) (fun _ => 0)
  case atStart => rfl
  case round =>
    obtain rfl := hrel
    go_wp2
    go_ret
    exact ⟨rfl, Below.refl _ _⟩

set_option maxRecDepth 100000 in
set_option maxHeartbeats 2000000 in
theorem equal_rows (b off cap g pff dap len : Nat) (ts us : List Int) (w : World) (hr : Row w b off ts) (hb : b < w.heap.size) (hs : Row w g pff us) (hg : g < w.heap.size) (hl : ts.length = len) (hk : us.length = len) (hm : len ≤ 1000000) :
    Calls Tryz.prog 109 #[.slice (some ⟨b, off, none⟩) len cap, .slice (some ⟨g, pff, none⟩) len dap] w fun e w' => e = .returned (.bool (decide (ts = us))) ∧ Below w.heap.size w w' := by
  have t3 : ((len : Int) != len) = false := by simp
  have HR := Lib.hid hr
  have HS := Lib.hid hs
  have HL := Lib.hid hl
  have HK := Lib.hid hk
  clear hr hs hl hk
  go_enter Tryz.func109, Tryz.ntmps109
  go_wp2
  go_loopw [13] (fun i wr => ∃ k : Nat, k ≤ len ∧ i = .int .i64 k ∧ RowKit.Hid (∀ p, p < k → ts[p]?.getD 0 = us[p]?.getD 0) ∧ Below w.heap.size w wr)
    (fun i _ => len - (intOf i).toNat)
  case atStart => exact ⟨0, Nat.zero_le _, rfl, Lib.hid (fun m hm => absurd hm (by omega)), Below.refl _ _⟩
  case round =>
    obtain ⟨k, hk, rfl, heq, hB⟩ := hrel
    by_cases hkn : k < len
    · have hc := (HR.out.below hB hb) k (by rw [HL.out]; exact hkn)
      have hd := (HS.out.below hB hg) k (by rw [HK.out]; exact hkn)
      have z1 : (0 : Int) ≤ k := by omega
      have z2 : (k : Int) < len := by omega
      generalize hx : ts[k]?.getD 0 = x at hc
      generalize hy : us[k]?.getD 0 = y at hd
      have HX := Lib.hid hx
      have HY := Lib.hid hy
      clear hx hy
      by_cases hxy : x = y
      · obtain rfl : x = y := hxy
        have t4 : ((x : Int) != x) = false := by simp
        go_wp2_with fail
        go_quiet (fail)
        go_wp2
        go_roundw
        case rel => exact ⟨k + 1, by omega, by go_num, Lib.hid (fun m hm => by
          by_cases e : m = k
          · subst e; rw [HX.out, HY.out]
          · exact heq.out m (by omega)), bound.drawn hB _⟩
        case measure => simp [intOf]; omega
      · have t4 : ((x : Int) != y) = true := by simpa using hxy
        have hne : RowKit.Hid (decide (ts = us) = false) := Lib.hid (decide_eq_false (fun e => hxy (by rw [← HX.out, ← HY.out, e])))
        clear hxy
        go_wp2_with fail
        go_quiet (fail)
        go_wp2
        go_ret
        exact ⟨by rw [hne.out]; rfl, bound.drawn hB _⟩
    · obtain rfl : len = k := by omega
      have hyes : RowKit.Hid (decide (ts = us) = true) := Lib.hid (decide_eq_true (List.ext_getElem (by rw [HL.out, HK.out]) (fun i h1 h2 => by
        have := heq.out i (by rw [← HL.out]; exact h1)
        rwa [List.getElem?_eq_getElem h1, List.getElem?_eq_getElem h2] at this)))
      go_wp2
      go_ret
      exact ⟨by rw [hyes.out]; rfl, hB⟩
theorem equal_any (sv tv : Value) (ts us : List Int) (w : World) (hI : law.Ints w.heap.size w sv ts) (hJ : law.Ints w.heap.size w tv us) (hm : ts.length ≤ 1000000) :
    Calls Tryz.prog 109 #[sv, tv] w fun e w' => e = .returned (.bool (decide (ts = us))) ∧ Below w.heap.size w w' := by
  by_cases h2 : ts.length = us.length
  · rcases hI with ⟨⟨a, cap, rfl, _⟩, rfl⟩ | ⟨b, off, cap, rfl, hb, hc⟩
    · obtain rfl : us = [] := List.eq_nil_of_length_eq_zero (by rw [← h2]; rfl)
      obtain ⟨c, dap, rfl⟩ := ints_len hJ
      have := equal_nil a c cap dap w
      simpa using this
    · rcases hJ with ⟨⟨c, dap, rfl, _⟩, rfl⟩ | ⟨g, pff, dap, rfl, hg, hd⟩
      · obtain rfl : ts = [] := List.eq_nil_of_length_eq_zero (by rw [h2]; rfl)
        have := equal_nil (some ⟨b, off, none⟩) c cap dap w
        simpa using this
      · rw [← h2]
        exact equal_rows b off cap g pff dap ts.length ts us w hc hb (fun p hp => hd p hp) hg rfl h2.symm hm
  · obtain ⟨a, cap, rfl⟩ := ints_len hI
    obtain ⟨c, dap, rfl⟩ := ints_len hJ
    rw [decide_eq_false (fun k => h2 (by rw [k]))]
    exact equal_lens a c _ _ cap dap w h2

/-- are two matrices the same? -/
theorem same4_any (n m : Int) (sv tv : Value) (ts us : List Int) (w : World) (hI : law.Ints w.heap.size w sv ts) (hJ : law.Ints w.heap.size w tv us) (hm : ts.length ≤ 1000000) :
    Calls Tryz.prog 74 #[.agg #[.int .i64 n, sv], .agg #[.int .i64 m, tv]] w fun e w' => e = .returned (.bool (decide (n = m ∧ ts = us))) ∧ Below w.heap.size w w' := by
  have DB := bound.up2 w (.cells #[.int .i64 n, sv] 76) (.cells #[.int .i64 m, tv] 76)
  have hE := equal_any sv tv ts us _ ((hI.below DB).mono DB.size) ((hJ.below DB).mono DB.size) hm
  have HE := Lib.hid hE
  obtain ⟨a, cap, rfl⟩ := ints_len hI
  obtain ⟨c, dap, rfl⟩ := ints_len hJ
  clear hI hJ hE
  by_cases h : n = m
  · subst h
    have e : decide (n = n ∧ ts = us) = decide (ts = us) := by simp
    rw [e]
    have t1 : ((n : Int) == n) = true := by simp
    clear e
    generalize decide (ts = us) = r at HE ⊢
    go_enter Tryz.func74, Tryz.ntmps74
    go_wp2_with fail
    refine HE.out.mono ?_
    rintro e w1 ⟨rfl, hB1⟩
    have B1 := DB.trans (hB1.mono DB.size)
    clear HE DB hB1
    go_wp2_with fail
    go_ret
    exact ⟨rfl, B1⟩
  · rw [decide_eq_false (fun k => h k.1)]
    have t1 : ((n : Int) == m) = false := by simpa using h
    clear h HE
    go_enter Tryz.func74, Tryz.ntmps74
    go_wp2_with fail
    go_ret
    exact ⟨rfl, DB⟩
end Go.Proofs.YthljhijcmdnonaaGreatDoor.dbm

namespace Go.Proofs.YthljhijcmdnonaaGreatDoor.dbm
open Go.ChangeShapes Go.WideShapes Go.ChangeAt Go.RowKit num
open bound hiding up
set_option linter.unusedVariables false

/-- what Twin answers, of any matrix. -/
def TwA (n : Int) (ts : List Int) (w : World) (e : Ending) (w' : World) : Prop := Below w.heap.size w w' ∧ ∃ v, e = .returned (.agg #[.int .i64 n, v]) ∧
  ((v = .slice none 0 0 ∧ ts = []) ∨ ∃ g, w.heap.size ≤ g ∧ v = .slice (some ⟨g, 0, none⟩) ts.length ts.length ∧ lies.Lies w' g 22 (cellsOf ts))
end Go.Proofs.YthljhijcmdnonaaGreatDoor.dbm
