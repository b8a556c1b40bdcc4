/-
  Zones and points that come in as arguments, opened; what the listed variable gives; the heap that the door's own run leaves meets the condition; each theorem names its conditions.
-/
import Derived.Test.YtklejbheieceeaaGreatDoorBase
import Derived.LaidMore
import Derived.MakeChecks
import Derived.FnData
import Derived.Stop.Joined
import Derived.Lib.SmallJoins
namespace Go.Proofs.YtklejbheieceeaaGreatDoor.zopen
open Go.Joins Go.ChangeShapes Go.WideShapes Go.ChangeAt Go.RowKit
set_option linter.unusedVariables false
set_option linter.unusedSimpArgs false

theorem array_six {α : Type} {a : Array α} (h : a.size = 6) : ∃ c0 c1 c2 c3 c4 c5, a = #[c0, c1, c2, c3, c4, c5] := by
  obtain ⟨l⟩ := a
  match l, h with
  | [c0, c1, c2, c3, c4, c5], _ => exact ⟨c0, c1, c2, c3, c4, c5, rfl⟩
theorem array_four {α : Type} {a : Array α} (h : a.size = 4) : ∃ c0 c1 c2 c3, a = #[c0, c1, c2, c3] := by
  obtain ⟨l⟩ := a
  match l, h with
  | [c0, c1, c2, c3], _ => exact ⟨c0, c1, c2, c3, rfl⟩
set_option maxRecDepth 100000 in
/-- a zone by value. -/
theorem open_zone {H : Type} {enc : TypeId × Value → H} {W : World} {v : Value} {d : DataW H} {p : List MemPlace} {base : Nat}
    (hok : Value.okWide Tryz.prog W .any base 24 v) (h : DataW.Trod enc Tryz.prog W 0 (fun _ => true) true 24 v d p) :
    ∃ z0 z1 z2 z3 z4 z5 : Int, v = .agg #[.int .i64 z0, .int .i64 z1, .int .i64 z2, .int .i64 z3, .int .i64 z4, .int .i64 z5] ∧ ∀ x ∈ [z0, z1, z2, z3, z4, z5], (Lit.int .i64 x).wf = true := by
  have c1 : Tryz.prog.cellsOf 22 = 1 := by kernel_rfl
  have c6 : Tryz.prog.cellsOf 24 = 6 := by kernel_rfl
  simp only [Value.okWide, Tryz.underlying24] at hok
  obtain ⟨cs, rfl, hsz, _⟩ := hok
  obtain ⟨y0, y1, y2, y3, y4, y5, rfl⟩ := array_six (hsz.trans c6)
  obtain ⟨fuel, hf⟩ := h
  obtain ⟨xs, m, _, _, _, hn, hel⟩ := DataW.trod_array Tryz.underlying24 hf
  rw [c1] at hel
  match xs, hn with
  | [x0, x1, x2, x3, x4, x5], _ =>
    have h0 := hel 0 (by decide)
    have h1 := hel 1 (by decide)
    have h2 := hel 2 (by decide)
    have h3 := hel 3 (by decide)
    have h4 := hel 4 (by decide)
    have h5 := hel 5 (by decide)
    simp [Value.cells] at h0 h1 h2 h3 h4 h5
    obtain ⟨a0, e0, _, w0⟩ := DataW.trod_int Tryz.underlying22 h0
    obtain ⟨a1, e1, _, w1⟩ := DataW.trod_int Tryz.underlying22 h1
    obtain ⟨a2, e2, _, w2⟩ := DataW.trod_int Tryz.underlying22 h2
    obtain ⟨a3, e3, _, w3⟩ := DataW.trod_int Tryz.underlying22 h3
    obtain ⟨a4, e4, _, w4⟩ := DataW.trod_int Tryz.underlying22 h4
    obtain ⟨a5, e5, _, w5⟩ := DataW.trod_int Tryz.underlying22 h5
    simp only [List.cons.injEq, and_true] at e0 e1 e2 e3 e4 e5
    subst e0 e1 e2 e3 e4 e5
    refine ⟨a0, a1, a2, a3, a4, a5, rfl, fun x hx => ?_⟩
    simp only [List.mem_cons, List.not_mem_nil, or_false] at hx
    rcases hx with rfl | rfl | rfl | rfl | rfl | rfl <;> assumption
set_option maxRecDepth 100000 in
/-- a point by value. -/
theorem open_point {H : Type} {enc : TypeId × Value → H} {W : World} {v : Value} {d : DataW H} {p : List MemPlace} {base : Nat}
    (hok : Value.okWide Tryz.prog W .any base 31 v) (h : DataW.Trod enc Tryz.prog W 0 (fun _ => true) true 31 v d p) :
    ∃ a b c e : Int, v = .agg #[.int .i64 a, .int .i64 b, .int .i64 c, .int .i64 e] ∧ ∀ x ∈ [a, b, c, e], (Lit.int .i64 x).wf = true := by
  have c2 : Tryz.prog.cellsOf 29 = 2 := by kernel_rfl
  have c1 : Tryz.prog.cellsOf 3 = 1 := by kernel_rfl
  have c4 : Tryz.prog.cellsOf 31 = 4 := by kernel_rfl
  obtain ⟨cs, rfl, hsz⟩ := okWide_struct Tryz.underlying31 hok
  obtain ⟨y0, y1, y2, y3, rfl⟩ := array_four (hsz.trans c4)
  obtain ⟨fuel, hf⟩ := h
  obtain ⟨xs, n, _, _, _, hlen, hp⟩ := DataW.trod_struct Tryz.underlying31 hf
  have g0 := hp 0 _ rfl
  have g1 := hp 1 _ rfl
  simp [Value.cells, c2] at g0 g1
  match xs, hlen with
  | [x0, x1], _ =>
    simp at g0 g1
    obtain ⟨ys, m, _, _, _, hlen2, hq⟩ := DataW.trod_struct Tryz.underlying29 g0
    obtain ⟨zs, m', _, _, _, hlen3, hr⟩ := DataW.trod_struct Tryz.underlying29 g1
    have q0 := hq 0 _ rfl
    have q1 := hq 1 _ rfl
    have r0 := hr 0 _ rfl
    have r1 := hr 1 _ rfl
    match ys, hlen2, zs, hlen3 with
    | [s0, s1], _, [t0, t1], _ =>
      simp [c1] at q0 q1 r0 r1
      obtain ⟨a0, e0, _, w0⟩ := DataW.trod_int Tryz.underlying3 q0
      obtain ⟨a1, e1, _, w1⟩ := DataW.trod_int Tryz.underlying3 q1
      obtain ⟨a2, e2, _, w2⟩ := DataW.trod_int Tryz.underlying3 r0
      obtain ⟨a3, e3, _, w3⟩ := DataW.trod_int Tryz.underlying3 r1
      simp only [List.cons.injEq, and_true] at e0 e1 e2 e3
      subst e0 e1 e2 e3
      refine ⟨a0, a1, a2, a3, rfl, fun x hx => ?_⟩
      simp only [List.mem_cons, List.not_mem_nil, or_false] at hx
      rcases hx with rfl | rfl | rfl | rfl <;> assumption

/-! the listed variable -/
def places {H : Type} : List (String × DataW H) := [("rallentando/zone.places", Rows.laid_rallentando_zone_places)]
theorem gPlaces : Tryz.prog.globalNamed "rallentando/zone.places" = some 0 := by kernel_rfl
theorem tPlaces : (Tryz.prog.globals[0]?).map (·.type) = some 59 := by kernel_rfl
/-- The door's own heap meets the condition. -/
theorem door_met (os : Os) (args : Array Value) : laidMetH Tryz.prog places ((World.doorLaid Tryz.prog 400 os).forCall (fun _ _ => 0) ⟨#[], args, []⟩).memory :=
  laidMetH_of_parts3 (fuel := 8) (laidMet_of_run' 8 (by kernel_rfl) (by kernel_rfl)) (by kernel_rfl) (by kernel_rfl)
theorem take_one {α : Type} {l : List α} {i : Nat} {c : α} (h : (l.drop (i * 1)).take 1 = [c]) : l[i]? = some c := by
  rw [Nat.mul_one] at h
  have := congrArg (fun x => x[0]?) h
  simpa using this
/-- an int among the elements, and its cell. -/
theorem int_cell {W : World} {cs : Array Value} {m i : Nat} {k : Int} {x : DataW Unit × List MemPlace} (hv : W.var? Tryz.prog "rallentando/zone.places" = some cs)
    (h : DataW.trod (fun _ => ()) Tryz.prog W 0 (fun _ => true) false m 3 ((cs.toList.drop (i * 1)).take 1) = some x) (hx : x.1 = .lit (.int .i64 k)) : W.cell? ⟨0, i, none⟩ = some (.int .i64 k) := by
  obtain ⟨j, e1, rfl, _⟩ := DataW.trod_int Tryz.underlying3 h
  obtain rfl : j = k := by simpa using hx
  rw [World.var?_cell gPlaces hv i, ← Array.getElem?_toList]
  exact take_one e1
set_option maxRecDepth 100000 in
/-- what the condition gives the walks: six cells. -/
theorem of_laid {W : World} (h : laidMetH Tryz.prog places W) : W.cell? ⟨0, 0, none⟩ = some (.int .i64 3) ∧ W.cell? ⟨0, 1, none⟩ = some (.int .i64 1) ∧ W.cell? ⟨0, 2, none⟩ = some (.int .i64 6) ∧ W.cell? ⟨0, 3, none⟩ = some (.int .i64 2) ∧ W.cell? ⟨0, 4, none⟩ = some (.int .i64 7) ∧ W.cell? ⟨0, 5, none⟩ = some (.int .i64 5) := by
  rw [MakeChecks.laidMetH_plain _ _ _ (by kernel_rfl)] at h
  obtain ⟨ps, ⟨g0, t0, cs0, f0, p0, q0, hg0, ht0, hv0, hd0, _, _⟩, _, _⟩ := h
  obtain rfl := Option.some.inj (gPlaces.symm.trans hg0)
  obtain rfl := Option.some.inj (tPlaces.symm.trans ht0)
  have c1 : Tryz.prog.cellsOf 3 = 1 := by kernel_rfl
  obtain ⟨xs, m, _, hx, _, hn, hel⟩ := DataW.trod_array Tryz.underlying59 hd0
  rw [c1] at hel
  match xs, hn with
  | [x0, x1, x2, x3, x4, x5], _ =>
    have hd : (Rows.laid_rallentando_zone_places : DataW Unit) = .agg [x0.1, x1.1, x2.1, x3.1, x4.1, x5.1] := congrArg Prod.fst hx
    unfold Rows.laid_rallentando_zone_places at hd
    injection hd with hd
    simp only [List.cons.injEq, and_true] at hd
    obtain ⟨d0, d1, d2, d3, d4, d5⟩ := hd
    exact ⟨int_cell hv0 (hel 0 (by decide)) d0.symm, int_cell hv0 (hel 1 (by decide)) d1.symm, int_cell hv0 (hel 2 (by decide)) d2.symm, int_cell hv0 (hel 3 (by decide)) d3.symm, int_cell hv0 (hel 4 (by decide)) d4.symm, int_cell hv0 (hel 5 (by decide)) d5.symm⟩
/-- the places of a zone's bounds lie as the program lays them. -/
def Pl (W : World) : Prop := 0 < W.heap.size ∧ W.cell? ⟨0, 0, none⟩ = some (.int .i64 3) ∧ W.cell? ⟨0, 1, none⟩ = some (.int .i64 1) ∧ W.cell? ⟨0, 2, none⟩ = some (.int .i64 6) ∧ W.cell? ⟨0, 3, none⟩ = some (.int .i64 2) ∧ W.cell? ⟨0, 4, none⟩ = some (.int .i64 7) ∧ W.cell? ⟨0, 5, none⟩ = some (.int .i64 5)
theorem Pl.below {n : Nat} {W X : World} (h : Pl W) (k : RowKit.Below n W X) (hn : 0 < n) : Pl X := by
  obtain ⟨h0, h1, h2, h3, h4, h5, h6⟩ := h
  exact ⟨Nat.lt_of_lt_of_le h0 k.size, (k.cell (p := ⟨0, 0, none⟩) hn).trans h1, (k.cell (p := ⟨0, 1, none⟩) hn).trans h2, (k.cell (p := ⟨0, 2, none⟩) hn).trans h3, (k.cell (p := ⟨0, 3, none⟩) hn).trans h4, (k.cell (p := ⟨0, 4, none⟩) hn).trans h5, (k.cell (p := ⟨0, 5, none⟩) hn).trans h6⟩
theorem Pl.on {W X : World} (h : Pl W) (k : RowKit.Below W.heap.size W X) : Pl X := h.below k h.1
theorem laid_pl {W : World} (h : laidMetH Tryz.prog places W) : Pl W := by
  have k := of_laid h
  refine ⟨Decidable.byContradiction fun hn => ?_, k⟩
  have e : W.heap[0]? = none := Array.getElem?_eq_none (Nat.le_of_not_lt hn)
  have := k.1
  simp [World.cell?, e] at this
end Go.Proofs.YtklejbheieceeaaGreatDoor.zopen
