/-
  CoverOrder answers true for every zones, and place; the listed variable reads as the program lays it.
-/
import Derived.Test.YthljhijcmdnonaaDoorCoverL
import Derived.Test.YthljhijcmdnonaaDoorCards
import Derived.Test.YthljhijcmdnonaaDoorTie
import Derived.BigQuiet
namespace Go.Proofs.YthljhijcmdnonaaDoor.coverOrder
open Go.Joins Go.ChangeShapes Go.WideShapes Go.ChangeAt Go.RowKit num rat dbm Go.Proofs.YthljhijcmdnonaaDoor.tight Go.Proofs.YthljhijcmdnonaaDoor.incl Go.Proofs.YthljhijcmdnonaaDoor.plaw Go.Proofs.YthljhijcmdnonaaDoor.zopen Go.Proofs.YthljhijcmdnonaaDoor.zone Go.Proofs.YthljhijcmdnonaaDoor.zlaw Go.Proofs.YthljhijcmdnonaaDoor.win Go.Proofs.YthljhijcmdnonaaDoor.minus Go.Proofs.YthljhijcmdnonaaDoor.mz Go.Proofs.YthljhijcmdnonaaDoor.mlaw Go.Proofs.YthljhijcmdnonaaDoor.cover Go.Proofs.YthljhijcmdnonaaDoor.claw dref
open bound hiding up
set_option linter.unusedVariables false
set_option linter.unusedSimpArgs false

theorem pru_small {l r : List (List Int)} {f : Int} (hl : Six l) (l6 : l.length ≤ 6) (h : PruX RestP l r f) : r.length ≤ 1000000 ∧ ∀ z, z ∈ r → z.length = 6 := by
  by_cases e : f = 0
  · subst e
    obtain ⟨_, zr, lr, _⟩ := pru_ok hl l6 h
    exact ⟨by omega, fun z hz => (zr z hz).2.2⟩
  · rw [pru_err hl l6 h e]
    exact ⟨Nat.zero_le _, fun z hz => by cases hz⟩
/-- some from a place on, and all. -/
theorem turned_in (l : List (List Int)) (k : Nat) : ∀ x, x ∈ l ↔ x ∈ l.drop k ++ l := fun x => ⟨fun h => List.mem_append.2 (.inr h), fun h => (List.mem_append.1 h).elim (fun q => List.mem_of_mem_drop q) id⟩
theorem rem_nat {m : Int} {n : Nat} (h0 : 0 ≤ m) (h1 : m ≤ 255) (hn : 0 < n) : ∃ k : Nat, k < n ∧ m.tmod (n : Int) = (k : Int) := by
  obtain ⟨a, rfl⟩ := Int.eq_ofNat_of_zero_le h0
  exact ⟨a % n, Nat.mod_lt _ hn, rfl⟩

set_option maxRecDepth 100000 in
set_option maxHeartbeats 16000000 in
theorem walk (v : Value) (l : List (List Int)) (m : Int) (w : World) (hu : 0 ≤ m ∧ m ≤ 255) (hwf : Wf6 l) (hI : Zs w.heap.size w v l) (hm : l.length ≤ maxLen) (hc : ∀ a l c, v = .slice a l c → l ≤ c) (hP : Pl w) : Calls Tryd.prog 3 #[v, .int .u8 m] w fun e w' => e = .returned (.bool true) ∧ Below w.heap.size w w' := by
  obtain ⟨ao, cap, rfl⟩ := zs_len hI
  have H6 := Lib.hid (show Six l from fun z hz => ⟨(hwf z hz).1, hwf.tops hz⟩)
  have hcap := hc _ _ _ rfl
  have P0 := hP
  have DB := Below.refl w.heap.size w
  have HI := Lib.hid hI
  clear hP hwf hI hm hc
  go_enter Tryd.func3, Tryd.ntmps3
  go_wp2_with fail
  refine (claw.alive_yes w P0).mono ?_
  rintro e w1 ⟨rfl, hB⟩
  replace HI := Lib.hid ((HI.out.below hB).mono hB.size)
  replace P0 := P0.on hB
  replace DB := later DB hB
  clear hB
  by_cases h0 : l.length = 0
  · skip
    have hl0 : l = [] := List.eq_nil_of_length_eq_zero h0
    clear HI h0 hcap H6
    subst hl0
    go_wp2_with fail
    go_ret
    exact ⟨rfl, DB⟩
  by_cases h5 : 6 < l.length
  · skip
    have h0l : ¬ l = [] := fun e => h0 (by rw [e]; rfl)
    have h0i : ¬ (l.length : Int) = 0 := by omega
    have h0b : ((l.length : Int) == (0 : Int)) = false := beq_eq_false_iff_ne.2 h0i
    have h5i : (6 : Int) < (l.length : Int) := by omega
    clear HI h0 h5 hcap
    go_wp2_with fail
    go_ret
    exact ⟨rfl, DB⟩
  have h0l : ¬ l = [] := fun e => h0 (by rw [e]; rfl)
  have h0i : ¬ (l.length : Int) = 0 := by omega
  have h0b : ((l.length : Int) == (0 : Int)) = false := beq_eq_false_iff_ne.2 h0i
  have h5i : ¬ (6 : Int) < (l.length : Int) := by omega
  have h5b : decide ((6 : Int) < (l.length : Int)) = false := decide_eq_false h5i
  have h5m : l.length ≤ 1000000 := by omega
  have H5 := Lib.hid (show l.length ≤ 6 from by omega)
  obtain ⟨k, hkn, hrem⟩ := rem_nat (n := l.length) hu.1 hu.2 (by omega)
  obtain ⟨b, off, rfl, hb, -⟩ : ∃ b off, ao = some ⟨b, off, none⟩ ∧ b < w1.heap.size ∧ True := by
    obtain ⟨b, off, e, _, hb, _⟩ := zs_at HI.out (k := 0) (by omega)
    exact ⟨b, off, e, hb, trivial⟩
  have hdr := zs_drop (cap' := cap - k) HI.out k (by omega)
  have hdl : (l.drop k).length = l.length - k := List.length_drop
  obtain ⟨ls, els⟩ : ∃ ls, ls = l.drop k := ⟨_, rfl⟩
  rw [← els] at hdr hdl
  obtain ⟨vp, wp, hrun, hown, hgrow, -⟩ := app_zones w1.heap.size 22 (.slice none 0 0) (.slice (some ⟨b, off + k * 6, none⟩) (l.length - k) (cap - k)) 0 _ [] ls _ (World.ownsRow_nil _ _ _ _) hdr (by omega) (Nat.le_refl _)
  rw [Nat.zero_add, List.nil_append] at hown
  have hB1 : Below w1.heap.size w1 wp := (Below.refl w1.heap.size w1).grown hgrow (Nat.le_refl _) (fun _ e => by cases e)
  obtain ⟨bp, cp, rfl⟩ := zs_len (zs_own hown)
  obtain ⟨vq, wq, hrun2, hown2, hgrow2, -⟩ := app_zones w1.heap.size 22 (.slice bp ls.length cp) (.slice (some ⟨b, off, none⟩) l.length cap) _ _ _ l _ hown (HI.out.below hB1) (by omega) hB1.size
  have hB : Below w1.heap.size w1 wq := held_grown hB1 hB1.size hown (Nat.le_refl _) hgrow2
  obtain ⟨lt, elt⟩ : ∃ lt, lt = ls ++ l := ⟨_, rfl⟩
  have hown3 : wq.ownsRow w1.heap.size 31 6 vq lt.length (flatZ lt) := by
    rw [elt, List.length_append, flatZ_app]; exact hown2
  have hlt : lt.length = ls.length + l.length := by rw [elt, List.length_append]
  obtain ⟨bq, cq, rfl⟩ := zs_len (zs_own hown3)
  have HQ := Lib.hid (zs_own hown3)
  have HTI := Lib.hid (show ∀ x, x ∈ l ↔ x ∈ lt from by rw [elt, els]; exact turned_in l k)
  have HLT := Lib.hid (show lt.length ≤ 4096 ∧ lt.length ≤ 1000000 from by omega)
  have HDL := Lib.hid hdl
  have HRUN := Lib.hid hrun
  have HRUN2 := Lib.hid hrun2
  have HB := Lib.hid hB
  clear hrun hrun2 hown hown2 hown3 hgrow hgrow2 hB1 hB hdr els elt hlt h0 hdl
  have hkl : k ≤ l.length := by omega
  have hkc : k ≤ cap := by omega
  have hkd : ¬ cap = k := by omega
  have hke : ¬ k = cap := by omega
  have hwm : IntKind.i64.wrap m = m := IntWalk.i64_in _ ⟨by omega, by omega⟩
  have hwk : IntKind.i64.wrap (k : Int) = (k : Int) := IntWalk.i64_in _ ⟨by omega, by omega⟩
  go_wp2_with (first | (at_builtin; refine dref.append_run2 rfl (.const (.slice none 0 0)) (.tmp 33) 22 rfl _ _ _ _ rfl rfl HRUN.out ?_; clear HRUN) | (at_builtin; refine dref.append_run2 rfl (.tmp 34) (.tmp 35) 22 rfl _ _ _ _ rfl rfl HRUN2.out ?_; clear HRUN2))
  have hB := HB.out
  clear HB
  replace HI := Lib.hid ((HI.out.below hB).mono hB.size)
  replace P0 := P0.on hB
  replace DB := later DB hB
  clear hB
  clear hkl hkc hkd hke hwm hwk hrem h0i h0b h0l h5i h5b hcap hb hkn hu
  refine (cover.prune_any _ l.length cap l wq P0 HI.out H6.out rfl h5m).mono ?_
  rintro e w2 ⟨hB, v1, r1, f1, rfl, hR, hO⟩
  have hZ := zs_own hO
  obtain ⟨p1, q1, rfl⟩ := zs_len hZ
  have HV1 := Lib.hid hZ
  have HR1 := Lib.hid hR
  clear hO hR hZ
  replace HI := Lib.hid ((HI.out.below hB).mono hB.size)
  replace HQ := Lib.hid ((HQ.out.below hB).mono hB.size)
  replace P0 := P0.on hB
  replace DB := later DB hB
  clear hB
  go_wp2_with fail
  refine (cover.prune_any bq lt.length cq lt w2 P0 HQ.out (six_sub H6.out fun x hx => (HTI.out x).2 hx) rfl HLT.out.2).mono ?_
  rintro e w3 ⟨hB, v2, r2, f2, rfl, hR, hO⟩
  obtain ⟨rfl, rfl⟩ := pru_order H6.out H5.out HLT.out.1 HTI.out HR1.out hR
  obtain ⟨kl, k6⟩ := pru_small H6.out H5.out HR1.out
  have hZ := zs_own hO
  obtain ⟨p2, q2, rfl⟩ := zs_len hZ
  have HV2 := Lib.hid hZ
  have HK6 := Lib.hid k6
  clear hO hR hZ k6 HR1
  replace HI := Lib.hid ((HI.out.below hB).mono hB.size)
  replace HQ := Lib.hid ((HQ.out.below hB).mono hB.size)
  replace HV1 := Lib.hid ((HV1.out.below hB).mono hB.size)
  replace P0 := P0.on hB
  replace DB := later DB hB
  clear hB
  go_wp2_with fail
  refine (same_yes p1 p2 r2.length q1 q2 r2 w3 HV1.out HV2.out rfl kl HK6.out).mono ?_
  rintro e w4 ⟨rfl, hB⟩
  replace HI := Lib.hid ((HI.out.below hB).mono hB.size)
  replace HQ := Lib.hid ((HQ.out.below hB).mono hB.size)
  replace HV1 := Lib.hid ((HV1.out.below hB).mono hB.size)
  replace HV2 := Lib.hid ((HV2.out.below hB).mono hB.size)
  replace P0 := P0.on hB
  replace DB := later DB hB
  clear hB
  go_wp2_with fail
  go_ret
  exact ⟨rfl, DB⟩

set_option maxRecDepth 100000 in
theorem lifted (os : Os) (started : os.Started) (H : Type) (enc : TypeId × Value → H) :
    ReturnsInHanded {} Tryd.checked os 3 .any (fun w args => (Rows.coverOrderSpec.pre enc Tryd.prog Tryd.f3 [] false w args ∧ laidMetH Tryd.prog zopen.places w) ∧ sizedMet enc Tryd.prog Tryd.f3 (OpenSpec.ofChange Rows.coverOrderSpec) false w args) (Rows.coverOrderSpec.post enc Tryd.prog Tryd.f3 false true false false) := by
  refine returnsInHanded_of_change_and (C := Tryd.checked) (X := fun w _ => laidMetH Tryd.prog zopen.places w) (fun _ _ _ hh h => h.of_heap hh) law.own started (by kernel_rfl) Tryd.func3
    (ChangeSpec.witness_shaped (enc := enc) (C := Tryd.checked) (os := os) (X := fun w _ => laidMetH Tryd.prog zopen.places w) false (World.doorLaid Tryd.prog 400 os) #[.slice none 0 0, .int .u8 0] 8 rfl (World.shaped_of_RefB (by kernel_rfl) (by kernel_rfl)) (by kernel_rfl) (by kernel_rfl) (by kernel_rfl) (zopen.door_met os _)) ?_
  intro W base args ds gs before hval0 hW _ _ hL _
  have hval : ∀ (j : Nat) t v, Tryd.f3.params[j]? = some t → args[j]? = some v → Value.okWide Tryd.prog W .any base t v := hval0
  have hW' := hW
  obtain ⟨p, q, hA0, hV, rfl, _, _⟩ := hW
  have hA : DataW.TrodAll enc Tryd.prog W 0 (fun _ => true) true Tryd.f3.params.toList args.toList ds p := hA0
  rw [Tryd.params3] at hA hval
  obtain ⟨v0, vs0, d0, ds0, p0, q0, hargs, rfl, rfl, h0, r0⟩ := trodAll_cons hA
  obtain ⟨v1, vs1, d1, ds1, p1, q1, rfl, rfl, rfl, h1, r1⟩ := trodAll_cons r0
  obtain ⟨rfl, rfl, rfl⟩ := trodAll_nil r1
  obtain rfl : args = #[v0, v1] := by cases args; simp_all
  obtain ⟨l0, x0, hI0, m0, c0⟩ := mz.open_zones (hval 0 22 v0 rfl rfl) h0
  obtain ⟨m1, rfl, rfl, rfl, x1⟩ := open_int Tryd.underlying5 (hval 1 5 v1 rfl rfl) h1
  refine (walk v0 l0 m1 W (bounds_u8 x1) x0 hI0 m0 c0 (zopen.laid_pl hL)).mono fun e W' ⟨he, hB⟩ => ?_
  subst he
  exact ⟨_, rfl, law.post_true law.laidOut (by kernel_rfl) rfl Tryd.underlying4 rfl hW' (fun h => by subst h; rfl) hB⟩

theorem proved : Rows.CoverOrderSaid :=
  OpenClaim.holds_of_wide 3 Tryd.f3 rfl rfl rfl rfl rfl rfl rfl ⟨rfl, rfl, rfl, rfl, rfl⟩ rfl rfl rfl rfl rfl (by kernel_rfl) Tryd.func3 (by kernel_rfl)
    (of_decide_eq_true (by kernel_rfl)) (by unfold Func.isWrapper; first | (rw [if_pos (by decide +kernel)]; kernel_rfl) | (rw [if_neg (by decide +kernel)]; exact ⟨rfl, rfl⟩))
    (fun os started H enc _ => lifted os started H enc)
theorem card : Rows.CoverOrderCardSaid :=
  Claim7.holds_tied_plain_at .later [] [.data] true (true, "2a653a2495a718f6f3da16277af760e3a8a3a7580c5191817e652a07864c08ce") false
    proved (fun _ h => by cases h) (by kernel_rfl) (fun _ h => by cases h) coverOrder_row_tie rfl ⟨rfl, rfl⟩ (by kernel_rfl) rfl
    (fun f fn hf hfn => by
      obtain rfl : f = 3 := Option.some.inj ((show Tryd.prog.funcNamed "rallentando/rallentandolaw12.CoverOrder" = some 3 by kernel_rfl).symm.trans hf) |>.symm
      obtain rfl : fn = Tryd.f3 := (Option.some.inj (Tryd.func3.symm.trans hfn)).symm
      exact ⟨by kernel_rfl, fun j t ht => by
        rw [Tryd.params3] at ht
        have hm : t ∈ [22, 5] := by simpa using Array.mem_of_getElem? ht
        have hall : ([22, 5].all fun u => !Tryd.prog.wantsStandIn u) = true := by kernel_rfl
        exact (show Tryd.prog.wantsStandIn t = false by simpa using List.all_eq_true.1 hall t hm)⟩)
    (by kernel_rfl)
#print axioms card
end Go.Proofs.YthljhijcmdnonaaDoor.coverOrder
