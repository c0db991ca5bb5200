/-
  The statement GasSteady holds for every input: the law returns true and what came in reads as before.
-/
import Derived.Test.YtahochgbkhpefaaGreatDoorP10
import Derived.Test.YtahochgbkhpefaaGreatDoorP11
import Derived.Test.YtahochgbkhpefaaGreatDoorRows
import Derived.Test.YtahochgbkhpefaaGreatDoorTie
import Derived.Test.YtahochgbkhpefaaGreatDoorCards
import Derived.Test.YtahochgbkhpefaaGreatDoorChecked
import Derived.ProofKit
import Derived.OpenShut
import Derived.LaidMore
import Derived.Stop.Joined
import Derived.SevenTiedAt
import Derived.Carry
namespace Go.Proofs
open Go.RowKit Go.Shelf Gas
attribute [local go_sem ↓] Go.wp_at_zero Go.wp_at_succ

theorem loadR_ok {h r d m : Int} (a : 0 ≤ h ∧ h ≤ 20000) (b : 1 ≤ r ∧ r ≤ 400) (c : 0 ≤ d ∧ d ≤ 40) (e : 0 ≤ m ∧ m ≤ 240) : loadR h r d m = (loadF h r d m.toNat, 0) := by
  have h1 : inB h 0 20000 = true := by simpa [inB] using a
  have h2 : inB r 1 400 = true := by simpa [inB] using b
  have h3 : inB d 0 40 = true := by simpa [inB] using c
  have h4 : inB m 0 240 = true := by simpa [inB] using e
  simp [loadR, okL, h1, h2, h3, h4]
theorem loadR_rate {h r d m : Int} (b : ¬(1 ≤ r ∧ r ≤ 400)) : loadR h r d m = (0, 2) := by
  have h2 : inB r 1 400 = false := by simpa [inB] using b
  simp [loadR, okL, h2]

set_option maxHeartbeats 2000000 in
set_option maxRecDepth 50000 in
theorem gasSteady_walk (a0 a1 a2 a3 a4 a5 a6 : Int) (w : World) :
    Calls Tryz.prog 6 #[.int .i64 a0, .int .i64 a1, .int .i64 a2, .int .i64 a3, .int .i64 a4, .int .i64 a5, .int .i64 a6] w fun e w' => e = .returned (.bool true) ∧ Below w.heap.size w w' := by
  by_cases hg : (0 ≤ a4 ∧ a4 ≤ 20000) ∧ (0 ≤ a5 ∧ a5 ≤ 40) ∧ (0 ≤ a6 ∧ a6 ≤ 240) ∧ (0 ≤ a0 ∧ a0 ≤ 20000) ∧ (0 ≤ a2 ∧ a2 ≤ 40) ∧ (0 ≤ a3 ∧ a3 ≤ 240) ∧ a3 + a6 ≤ 240
  · obtain ⟨⟨g0, g1⟩, ⟨g2, g3⟩, ⟨g4, g5⟩, ⟨g6, g7⟩, ⟨g8, g9⟩, ⟨g10, g11⟩, g12⟩ := hg
    by_cases hr : 1 ≤ a1 ∧ a1 ≤ 400
    · have L1 := loadR_ok ⟨g6, g7⟩ hr ⟨g8, g9⟩ ⟨g10, g11⟩
      have b1 := loadF_btw (h := a0) (r := a1) (d := a2) (by omega) a3.toNat
      have c1 := loadF_bd (h := a0) (r := a1) (d := a2) (B := 20000) (n := a3.toNat) (by omega) g8 g6 g7 (by unfold pres; omega)
      have m1 := loadF_mono (h := a0) (h' := min 20000 (a0 + a4)) (r := a1) (d := a2) (d' := min 40 (a2 + a5)) (by omega) (by omega) (by omega) a3.toNat
      have L4 := loadR_ok (h := min 20000 (a0 + a4)) (r := a1) (d := min 40 (a2 + a5)) (m := a3) (by omega) hr (by omega) ⟨g10, g11⟩
      have s1 : loadF a0 a1 a2 (a3 + a6).toNat = loadF (loadF a0 a1 a2 a3.toNat) a1 a2 a6.toNat := by rw [← loadF_add]; congr 1; omega
      have L3 := loadR_ok (h := a0) (r := a1) (d := a2) (m := a3 + a6) ⟨g6, g7⟩ hr ⟨g8, g9⟩ (by omega)
      rw [s1] at L3
      generalize loadF a0 a1 a2 a3.toNat = A at *
      have L2 := loadR_ok (h := A) (r := a1) (d := a2) (m := a6) c1 hr ⟨g8, g9⟩ ⟨g4, g5⟩
      have b2 := loadF_btw (h := A) (r := a1) (d := a2) (by omega) a6.toNat
      generalize loadF A a1 a2 a6.toNat = B at *
      generalize loadF (min 20000 (a0 + a4)) a1 (min 40 (a2 + a5)) a3.toNat = D at *
      have hp : pres a2 = 1000 + 180 * a2 := rfl
      rw [hp] at b1 b2
      obtain ⟨LR, hLR⟩ : ∃ LR, LR = loadR := ⟨_, rfl⟩
      have HLd := Lib.hid fun (x y z u : Int) (W : World) => Load_c x y z u W
      rw [← hLR] at L1 L2 L3 L4 HLd
      have k1 := Lib.hid L1; have k2 := Lib.hid L2; have k3 := Lib.hid L3; have k4 := Lib.hid L4
      clear hLR
      clear L1 L2 L3 L4 s1 hp
      obtain ⟨b1a, b1b⟩ := b1; obtain ⟨b2a, b2b⟩ := b2; obtain ⟨r1, r2⟩ := hr
      obtain ⟨c1a, c1b⟩ := c1
      have HB := Lib.hid (Below.refl w.heap.size w)
      go_enter Tryz.func6, Tryz.ntmps6
      go_wp2_with (first
        | (go_at_call 22; refine (HLd.out _ _ _ _ _).mono ?_; rintro e w1 ⟨rfl, rfl⟩; first | rw [k1.out] | rw [k2.out] | rw [k3.out] | rw [k4.out])
        | (go_at_call 15; refine (knownLaw_c _).mono ?_; rintro e w2 ⟨rfl, hb⟩; replace HB := Lib.hid (nextB HB.out hb); clear hb))
      exact bodyPost_ret (results_tmp rfl _ _ _) rfl ⟨rfl, HB.out⟩
    · have L1 := loadR_rate (h := a0) (d := a2) (m := a3) hr
      have k1 := Lib.hid fun (W : World) => Load_c a0 a1 a2 a3 W
      rw [L1] at k1
      clear L1
      have HB := Lib.hid (Below.refl w.heap.size w)
      go_enter Tryz.func6, Tryz.ntmps6
      go_wp2_with (first
        | (go_at_call 22; refine (k1.out _).mono ?_; rintro e w1 ⟨rfl, rfl⟩)
        | (go_at_call 15; refine (knownLaw_c _).mono ?_; rintro e w2 ⟨rfl, hb⟩; replace HB := Lib.hid (nextB HB.out hb); clear hb))
      all_goals exact bodyPost_ret (results_tmp rfl _ _ _) rfl ⟨rfl, HB.out⟩
  · have HB := Lib.hid (Below.refl w.heap.size w)
    go_enter Tryz.func6, Tryz.ntmps6
    go_wp2_with (go_at_call 15; refine (knownLaw_c _).mono ?_; rintro e w2 ⟨rfl, hb⟩; replace HB := Lib.hid (nextB HB.out hb); clear hb)
    all_goals exact bodyPost_ret (results_tmp rfl _ _ _) rfl ⟨rfl, HB.out⟩
end Go.Proofs
namespace Go.Proofs.YtahochgbkhpefaaGreatDoor.gasSteady
open Go.ChangeShapes Go.WideShapes Go.ChangeAt Go.RowKit Go.Proofs

theorem own : ownKnob Tryz.prog.godebug = none := by kernel_rfl
theorem laidOut : laidOutB Tryz.prog = true := by kernel_rfl
theorem door_met (os : Os) (args : Array Value) : laidMetH Tryz.prog Rows.gasSteadyRow.laid ((World.doorLaid Tryz.prog 400 os).forCall (fun _ _ => 0) ⟨#[], args, []⟩).memory :=
  laidMetH_of_parts3 (fuel := 8) (laidMet_of_run' 8 (by kernel_rfl) (by kernel_rfl)) (by kernel_rfl) (by kernel_rfl)

set_option maxRecDepth 100000 in
theorem lifted (os : Os) (started : os.Started) (H : Type) (enc : TypeId × Value → H) :
    ReturnsInHanded {} Tryz.checked os 6 .any (fun w args => (Rows.gasSteadySpec.pre enc Tryz.prog Tryz.f6 [] false w args ∧ laidMetH Tryz.prog Rows.gasSteadyRow.laid w) ∧ sizedMet enc Tryz.prog Tryz.f6 (OpenSpec.ofChange Rows.gasSteadySpec) false w args)
      (Rows.gasSteadySpec.post enc Tryz.prog Tryz.f6 false true false false) := by
  refine returnsInHanded_of_change_and (C := Tryz.checked) (X := fun w _ => laidMetH Tryz.prog Rows.gasSteadyRow.laid w) (fun _ _ _ hh h => h.of_heap hh) own started (by kernel_rfl) Tryz.func6
    (ChangeSpec.witness_shaped (enc := enc) (C := Tryz.checked) (os := os) (X := fun w _ => laidMetH Tryz.prog Rows.gasSteadyRow.laid w) false (World.doorLaid Tryz.prog 400 os) #[.int .i64 0, .int .i64 0, .int .i64 0, .int .i64 0, .int .i64 0, .int .i64 0, .int .i64 0] 8 rfl (World.shaped_of_RefB (by kernel_rfl) (by kernel_rfl)) (by kernel_rfl) (by kernel_rfl) (by kernel_rfl) (door_met os _)) ?_
  intro W base args ds gs before hval0 hW _ _ hL _
  have hval : ∀ (j : Nat) t v, Tryz.f6.params[j]? = some t → args[j]? = some v → Value.okWide Tryz.prog W .any base t v := hval0
  have hW' := hW
  obtain ⟨p, q, hA0, hV, rfl, hfz, hnd⟩ := hW
  have hA : DataW.TrodAll enc Tryz.prog W 0 (fun _ => true) true Tryz.f6.params.toList args.toList ds p := hA0
  rw [Tryz.params6] at hA hval
  obtain ⟨v0, vs0, d0, ds0, p0, q0, hargs, rfl, rfl, h0, r0⟩ := trodAll_cons hA
  obtain ⟨v1, vs1, d1, ds1, p1, q1, rfl, rfl, rfl, h1, r1⟩ := trodAll_cons r0
  obtain ⟨v2, vs2, d2, ds2, p2, q2, rfl, rfl, rfl, h2, r2⟩ := trodAll_cons r1
  obtain ⟨v3, vs3, d3, ds3, p3, q3, rfl, rfl, rfl, h3, r3⟩ := trodAll_cons r2
  obtain ⟨v4, vs4, d4, ds4, p4, q4, rfl, rfl, rfl, h4, r4⟩ := trodAll_cons r3
  obtain ⟨v5, vs5, d5, ds5, p5, q5, rfl, rfl, rfl, h5, r5⟩ := trodAll_cons r4
  obtain ⟨v6, vs6, d6, ds6, p6, q6, rfl, rfl, rfl, h6, r6⟩ := trodAll_cons r5
  obtain ⟨rfl, rfl, rfl⟩ := trodAll_nil r6
  obtain rfl : args = #[v0, v1, v2, v3, v4, v5, v6] := by cases args; simp_all
  obtain ⟨rfl, rfl⟩ := trodVars_none hV
  have k0 := h0
  have lt0 : ∀ x ∈ p0, x.block < W.heap.size := by obtain ⟨m, hm⟩ := k0; exact DataW.trod_lt m _ _ _ hm
  have u0 := hval 0 3 v0 rfl rfl
  obtain ⟨a0, rfl, w0⟩ := arg_int u0 h0
  have k1 := h1
  have lt1 : ∀ x ∈ p1, x.block < W.heap.size := by obtain ⟨m, hm⟩ := k1; exact DataW.trod_lt m _ _ _ hm
  have u1 := hval 1 3 v1 rfl rfl
  obtain ⟨a1, rfl, w1⟩ := arg_int u1 h1
  have k2 := h2
  have lt2 : ∀ x ∈ p2, x.block < W.heap.size := by obtain ⟨m, hm⟩ := k2; exact DataW.trod_lt m _ _ _ hm
  have u2 := hval 2 3 v2 rfl rfl
  obtain ⟨a2, rfl, w2⟩ := arg_int u2 h2
  have k3 := h3
  have lt3 : ∀ x ∈ p3, x.block < W.heap.size := by obtain ⟨m, hm⟩ := k3; exact DataW.trod_lt m _ _ _ hm
  have u3 := hval 3 3 v3 rfl rfl
  obtain ⟨a3, rfl, w3⟩ := arg_int u3 h3
  have k4 := h4
  have lt4 : ∀ x ∈ p4, x.block < W.heap.size := by obtain ⟨m, hm⟩ := k4; exact DataW.trod_lt m _ _ _ hm
  have u4 := hval 4 3 v4 rfl rfl
  obtain ⟨a4, rfl, w4⟩ := arg_int u4 h4
  have k5 := h5
  have lt5 : ∀ x ∈ p5, x.block < W.heap.size := by obtain ⟨m, hm⟩ := k5; exact DataW.trod_lt m _ _ _ hm
  have u5 := hval 5 3 v5 rfl rfl
  obtain ⟨a5, rfl, w5⟩ := arg_int u5 h5
  have k6 := h6
  have lt6 : ∀ x ∈ p6, x.block < W.heap.size := by obtain ⟨m, hm⟩ := k6; exact DataW.trod_lt m _ _ _ hm
  have u6 := hval 6 3 v6 rfl rfl
  obtain ⟨a6, rfl, w6⟩ := arg_int u6 h6
  clear hA0 hval0
  simp only [List.append_nil] at hW'
  refine (gasSteady_walk a0 a1 a2 a3 a4 a5 a6 W).mono fun e W' ⟨he, bel⟩ => ?_
  subst he
  exact ⟨_, rfl, _, _, _, [], _, [], hW', trodAll_mk1 (shut_bool Tryz.underlying4 _), (trodAll_cons_mk (Below.trod laidOut (by kernel_rfl) (of_decide_eq_true (by kernel_rfl)) k0 bel lt0) (trodAll_cons_mk (Below.trod laidOut (by kernel_rfl) (of_decide_eq_true (by kernel_rfl)) k1 bel lt1) (trodAll_cons_mk (Below.trod laidOut (by kernel_rfl) (of_decide_eq_true (by kernel_rfl)) k2 bel lt2) (trodAll_cons_mk (Below.trod laidOut (by kernel_rfl) (of_decide_eq_true (by kernel_rfl)) k3 bel lt3) (trodAll_cons_mk (Below.trod laidOut (by kernel_rfl) (of_decide_eq_true (by kernel_rfl)) k4 bel lt4) (trodAll_cons_mk (Below.trod laidOut (by kernel_rfl) (of_decide_eq_true (by kernel_rfl)) k5 bel lt5) (trodAll_cons_mk (Below.trod laidOut (by kernel_rfl) (of_decide_eq_true (by kernel_rfl)) k6 bel lt6) trodAll_mk0))))))), rfl, bel.frame _, fun h => by cases h⟩

theorem row_holds : Rows.GasSteadySaid :=
  OpenClaim.holds_of_wide 6 Tryz.f6 rfl rfl rfl rfl rfl rfl rfl ⟨rfl, rfl, rfl, rfl, rfl⟩ rfl rfl rfl rfl rfl (by kernel_rfl) Tryz.func6 (by kernel_rfl)
    (of_decide_eq_true (by kernel_rfl)) (by unfold Func.isWrapper; first | (rw [if_pos (by decide +kernel)]; kernel_rfl) | (rw [if_neg (by decide +kernel)]; exact ⟨rfl, rfl⟩))
    (fun os started H enc _ => lifted os started H enc)

theorem gasSteady_holds : Rows.GasSteadyCardSaid :=
  Claim7.holds_tied_plain_at .later [] [.data, .data, .data] true (true, "7950fa0371113510b48b1005210e74e0fffa460a27dcdf5d658d223fe2172657") true
    row_holds (fun _ h => by cases h) (by kernel_rfl) (fun _ h => by cases h) gasSteady_row_tie rfl ⟨rfl, rfl⟩ (by kernel_rfl) rfl
    (fun f fn hf hfn => by
      obtain rfl : f = 6 := Option.some.inj ((show Tryz.prog.funcNamed "bathyal/bathyallaw02.GasSteady" = some 6 by kernel_rfl).symm.trans hf) |>.symm
      obtain rfl : fn = Tryz.f6 := (Option.some.inj (Tryz.func6.symm.trans hfn)).symm
      exact ⟨by kernel_rfl, fun j t ht => by
        rw [Tryz.params6] at ht
        have hm : t ∈ [3, 3, 3, 3, 3, 3, 3] := by simpa using Array.mem_of_getElem? ht
        have hall : ([3, 3, 3, 3, 3, 3, 3].all fun u => !Tryz.prog.wantsStandIn u) = true := by kernel_rfl
        exact (show Tryz.prog.wantsStandIn t = false by simpa using List.all_eq_true.1 hall t hm)⟩)
    (by kernel_rfl)
#print axioms gasSteady_holds
end Go.Proofs.YtahochgbkhpefaaGreatDoor.gasSteady
