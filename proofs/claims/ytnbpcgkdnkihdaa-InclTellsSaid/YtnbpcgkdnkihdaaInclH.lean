/-
  How the answers of In and Apart hang together; each theorem names its conditions.
-/
import Derived.Test.YtnbpcgkdnkihdaaInclG
namespace Go.Proofs.Ytnbpcgkdnkihdaa.incl
open Go.Joins Go.ChangeShapes Go.WideShapes Go.ChangeAt Go.RowKit num rat dbm way Go.Proofs.Ytnbpcgkdnkihdaa.tight Go.Proofs.Ytnbpcgkdnkihdaa.tkept
open bound hiding up
set_option linter.unusedVariables false
set_option linter.unusedSectionVars false

/-- the error of In and Apart. -/
def askE (n m : Int) (ts us : List Int) : Int := if MayD n ts ∧ MayD m us then (if n = m then 0 else 40) else 8
theorem asks_told {n m : Int} {ts us : List Int} {V : Prop} {w w' : World} {e : Ending} (h : Asks n m ts us V w e w') : Below w.heap.size w w' ∧ ∃ r : Bool, e = .returned (.tuple #[.bool r, .int .i64 (askE n m ts us)]) ∧ (askE n m ts us = 0 → (MayD n ts ∧ MayD m us ∧ n = m ∧ (r = true ↔ V))) := by
  obtain ⟨hB, r, f, rfl, hc⟩ := h
  unfold askE
  rcases hc with ⟨k, rfl, rfl⟩ | ⟨k1, k2, k3, rfl, rfl⟩ | ⟨k1, k2, rfl, hr, rfl⟩
  · rw [if_neg k]
    exact ⟨hB, false, rfl, fun h => absurd h (by decide)⟩
  · rw [if_pos ⟨k1, k2⟩, if_neg k3]
    exact ⟨hB, false, rfl, fun h => absurd h (by decide)⟩
  · rw [if_pos ⟨k1, k2⟩, if_pos rfl]
    exact ⟨hB, r, rfl, fun _ => ⟨k1, k2, rfl, hr⟩⟩
theorem askE_cases (n m : Int) (ts us : List Int) : askE n m ts us = 0 ∨ askE n m ts us = 8 ∨ askE n m ts us = 40 := by
  unfold askE
  split
  · split <;> simp
  · simp
theorem may_len {n : Nat} {us : List Int} (h : MayD n us) : us.length = n * n := by
  have := h.2.2.1
  rw [← Int.natCast_mul] at this
  exact Int.ofNat.inj this

section
variable {n : Int} {ts us vs : List Int} (ht : MayD n ts) (hu : MayD n us) (hv : MayD n vs) (tt : Tops ts) (tu : Tops us) (tv : Tops vs)
include ht hu tt tu
theorem in_alive (h : OkD n ts) (k : inV n ts us) : OkD n us := by
  obtain ⟨m, rfl, h0, hn, hl⟩ := may_nat ht
  have hul := may_len hu
  exact (okD_good h0 hn hul tu hu).2 (lie_good (clo_good h0 hn hl tt h) ((lie_iff h0 hn hl hul tt tu h).1 k))
theorem les_good : OkD n (lesT ts us) ↔ ∃ m : Nat, n = m ∧ way.Good (both (beg m ts) (beg m us)) m := by
  obtain ⟨m, rfl, h0, hn, hl⟩ := may_nat ht
  have hul := may_len hu
  rw [okD_good h0 hn ((lesT_length _ _).trans hl) (lesT_tops tt us) (lesT_may ht hu), beg_les h0 hn hl hul tt tu]
  constructor
  · intro h; exact ⟨m, rfl, h⟩
  · rintro ⟨k, e, h⟩
    obtain rfl : m = k := by omega
    exact h
theorem les_left (h : OkD n (lesT ts us)) : OkD n ts := by
  obtain ⟨m, rfl, h0, hn, hl⟩ := may_nat ht
  obtain ⟨k, e, g⟩ := (les_good ht hu tt tu).1 h
  obtain rfl : m = k := by omega
  exact (okD_good h0 hn hl tt ht).2 (both_left g)
include hv tv
theorem in_chain (k : inV n ts us) (l : inV n us vs) : inV n ts vs := by
  by_cases h : OkD n ts
  · obtain ⟨m, rfl, h0, hn, hl⟩ := may_nat ht
    have hul := may_len hu
    have hvl := may_len hv
    have hb := in_alive ht hu tt tu h k
    exact (lie_iff h0 hn hl hvl tt tv h).2 (way.lie_trans (clo_good h0 hn hl tt h) ((lie_iff h0 hn hl hul tt tu h).1 k) ((lie_iff h0 hn hul hvl tu tv hb).1 l))
  · exact fun hh => (h hh).elim
theorem ap_chain (k : inV n ts us) (l : apV n us vs) : apV n ts vs := fun ho => by
  have h := les_left ht hv tt tv ho
  obtain ⟨m, rfl, h0, hn, hl⟩ := may_nat ht
  have hul := may_len hu
  obtain ⟨k', e, g⟩ := (les_good ht hv tt tv).1 ho
  obtain rfl : m = k' := by omega
  exact l ((les_good hu hv tu tv).2 ⟨m, rfl, lie_apart ((lie_iff h0 hn hl hul tt tu h).1 k) g⟩)
end
section
variable {n : Int} {ts us vs : List Int} (ht : MayD n ts) (hu : MayD n us) (tt : Tops ts) (tu : Tops us)
include ht hu tt tu
/-- what two have in common lies in both. -/
theorem m_in (h : OkD n (lesT ts us)) (hm : MayD n (clT n (lesT ts us))) : inV n (clT n (lesT ts us)) ts ∧ inV n (clT n (lesT ts us)) us := by
  obtain ⟨m, rfl, h0, hn, hl⟩ := may_nat ht
  have hul := may_len hu
  have hll : (lesT ts us).length = m * m := (lesT_length _ _).trans hl
  have tl := lesT_tops tt us
  have hcl : (clT m (lesT ts us)).length = m * m := (clT_length h).trans hll
  have tc : Tops (clT m (lesT ts us)) := clT_tops tl
  have g := clo_good h0 hn hll tl h
  have hb : beg m (clT m (lesT ts us)) = F (beg m (lesT ts us)) m := by
    funext i j
    rw [clT_nat h0]
    exact beg_closed h0 hn hll tl h i j
  have hok : OkD m (clT m (lesT ts us)) := (okD_good h0 hn hcl tc hm).2 (by rw [hb]; exact good_F g)
  rw [lie_iff h0 hn hcl hl tc tt hok, lie_iff h0 hn hcl hul tc tu hok, hb]
  have hm' := lie_m (beg m ts) (beg m us) m
  rw [beg_les h0 hn hl hul tt tu] at g ⊢
  exact ⟨fun i j => by rw [F_self g]; exact hm'.1 i j, fun i j => by rw [F_self g]; exact hm'.2 i j⟩
/-- one lies in another one just if what they have in common is what is closed of it. -/
theorem in_iff_m (h : OkD n (lesT ts us)) : inV n ts us ↔ clT n (lesT ts us) = clT n ts := by
  have ho := les_left ht hu tt tu h
  obtain ⟨m, rfl, h0, hn, hl⟩ := may_nat ht
  have hul := may_len hu
  have hll : (lesT ts us).length = m * m := (lesT_length _ _).trans hl
  have tl := lesT_tops tt us
  have g := clo_good h0 hn hll tl h
  have g1 := clo_good h0 hn hl tt ho
  rw [lie_iff h0 hn hl hul tt tu ho, lie_both g1]
  have e1 := wts_closed h0 hn hll tl h
  have e2 := wts_closed h0 hn hl tt ho
  rw [beg_les h0 hn hl hul tt tu] at g e1
  constructor
  · rintro ⟨_, k⟩
    refine list_ext h0 ((clT_length h).trans hll) ((clT_length ho).trans hl) fun i j hi hj => cod_inj ?_
    rw [← wts_in (us := clT m (lesT ts us)) hi hj, ← wts_in (us := clT m ts) hi hj, e1, e2]
    exact k i j
  · intro k
    refine ⟨g, fun i j => ?_⟩
    rw [← e1, ← e2, k]
/-- one that lies in both lies in what they have in common. -/
theorem in_both {vs : List Int} (hv : MayD n vs) (tv : Tops vs) (h : OkD n (lesT ts us)) (hm : MayD n (clT n (lesT ts us))) : inV n vs (clT n (lesT ts us)) ↔ inV n vs ts ∧ inV n vs us := by
  by_cases ho : OkD n vs
  · obtain ⟨m, rfl, h0, hn, hl⟩ := may_nat ht
    have hul := may_len hu
    have hvl := may_len hv
    have hll : (lesT ts us).length = m * m := (lesT_length _ _).trans hl
    have tl := lesT_tops tt us
    have hcl : (clT m (lesT ts us)).length = m * m := (clT_length h).trans hll
    have tc : Tops (clT m (lesT ts us)) := clT_tops tl
    have hb : beg m (clT m (lesT ts us)) = F (beg m (lesT ts us)) m := by
      funext i j
      rw [clT_nat h0]
      exact beg_closed h0 hn hll tl h i j
    rw [lie_iff h0 hn hvl hcl tv tc ho, lie_iff h0 hn hvl hl tv tt ho, lie_iff h0 hn hvl hul tv tu ho, hb, beg_les h0 hn hl hul tt tu]
    exact lie_common (clo_good h0 hn hvl tv ho)
  · exact ⟨fun _ => ⟨fun k => (ho k).elim, fun k => (ho k).elim⟩, fun _ k => (ho k).elim⟩
end
end Go.Proofs.Ytnbpcgkdnkihdaa.incl

namespace Go.Proofs.Ytnbpcgkdnkihdaa.ilaw
open Go.Joins Go.ChangeShapes Go.WideShapes Go.ChangeAt Go.RowKit num dbm Go.Proofs.Ytnbpcgkdnkihdaa.tlaw
open bound hiding up
set_option linter.unusedVariables false
theorem st2 (n m : Int) (sv tv : Value) (ts us : List Int) (w : World) (hI : law.Ints w.heap.size w sv ts) (hJ : law.Ints w.heap.size w tv us) : St [(w.heap.size + 1, m, tv, us), (w.heap.size, n, sv, ts)] w ((w.alloc (.cells #[.int .i64 n, sv] 27)).alloc (.cells #[.int .i64 m, tv] 27)) := by
  have K : Below w.heap.size w ((w.alloc (.cells #[.int .i64 n, sv] 27)).alloc (.cells #[.int .i64 m, tv] 27)) := bound.up2 _ _ _
  refine ⟨K, fun b hb => ?_⟩
  rcases List.mem_cons.1 hb with rfl | hb
  · exact ⟨lies.made_at _ _ _ _ (World.size_alloc _ _), (hJ.below K).mono K.size⟩
  · obtain rfl := List.mem_singleton.1 hb
    exact ⟨lies.on_alloc (lies.made _ _ _) _, (hI.below K).mono K.size⟩
theorem st3 (n m l : Int) (sv tv uv : Value) (ts us vs : List Int) (w : World) (hI : law.Ints w.heap.size w sv ts) (hJ : law.Ints w.heap.size w tv us) (hK : law.Ints w.heap.size w uv vs) : St [(w.heap.size + 1 + 1, l, uv, vs), (w.heap.size + 1, m, tv, us), (w.heap.size, n, sv, ts)] w (((w.alloc (.cells #[.int .i64 n, sv] 27)).alloc (.cells #[.int .i64 m, tv] 27)).alloc (.cells #[.int .i64 l, uv] 27)) := by
  have K : Below w.heap.size w (((w.alloc (.cells #[.int .i64 n, sv] 27)).alloc (.cells #[.int .i64 m, tv] 27)).alloc (.cells #[.int .i64 l, uv] 27)) := bound.up3 _ _ _ _
  have S2 := (st2 n m sv tv ts us w hI hJ).alloc (.cells #[.int .i64 l, uv] 27)
  refine ⟨K, fun b hb => ?_⟩
  rcases List.mem_cons.1 hb with rfl | hb
  · exact ⟨lies.made_at _ _ _ _ (by simp), (hK.below K).mono K.size⟩
  · exact S2.2 b hb
end Go.Proofs.Ytnbpcgkdnkihdaa.ilaw
