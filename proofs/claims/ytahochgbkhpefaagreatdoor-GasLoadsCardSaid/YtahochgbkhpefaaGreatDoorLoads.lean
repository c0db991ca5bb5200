/-
  The statement GasLoads holds for every input: the law returns true and what came in reads as before.
-/
import Derived.Test.YtahochgbkhpefaaGreatDoorP10
import Derived.Test.YtahochgbkhpefaaGreatDoorRows
import Derived.Test.YtahochgbkhpefaaGreatDoorTie
import Derived.Test.YtahochgbkhpefaaGreatDoorCards
import Derived.Test.YtahochgbkhpefaaGreatDoorChecked
import Derived.ProofKit
import Derived.OpenShut
import Derived.LaidMore
import Derived.Stop.Joined
import Derived.SevenTiedAt
namespace Go.Proofs
open Go.RowKit Go.Shelf Gas
attribute [local go_sem ↓] Go.wp_at_zero Go.wp_at_succ

theorem ord_just (n low high : Int) : ordB n n low high 0 = inB n low high := by
  unfold ordB inB
  congr 1
  apply propext
  omega

set_option maxHeartbeats 1000000 in
theorem gasLoads_walk (a0 a1 a2 a3 : Int) (w : World) :
    Calls Tryz.prog 5 #[.int .i64 a0, .int .i64 a1, .int .i64 a2, .int .i64 a3] w fun e w' => e = .returned (.bool true) ∧ Below w.heap.size w w' := by
  have HS := Lib.hid fun (H : okL a0 a1 a2 a3 = true) => (show loadR a0 a1 a2 a3 = (loadF a0 a1 a2 a3.toNat, 0) by simp [loadR, H])
  have HF := Lib.hid fun (H : okL a0 a1 a2 a3 = false) => (show loadR a0 a1 a2 a3 = (0, 2) by simp [loadR, H])
  have HL := Lib.hid fun (W : World) => Load_c a0 a1 a2 a3 W
  have HB := Lib.hid (Below.refl w.heap.size w)
  cases a : inB a0 0 20000
  · have A := Lib.hid a
    rw [HF.out (by simp [okL, a])] at HL
    clear a HS HF
    go_enter Tryz.func5, Tryz.ntmps5
    go_wp2_with (first
      | (go_at_call 22; refine (HL.out _).mono ?_; rintro e w1 ⟨rfl, rfl⟩)
      | (go_at_call 24; refine (just1_c _ _).mono ?_; rintro e w2 ⟨rfl, hb⟩; replace HB := Lib.hid (nextB HB.out hb); clear hb)
      | (go_at_call 23; refine (Span_c _ _ _ _ _ (by omega) (by omega) _).mono ?_; rintro e w2 ⟨rfl, hb⟩; replace HB := Lib.hid (nextB HB.out hb); clear hb; rw [ord_just, A.out])
      | (go_at_call 15; refine (knownLaw_c _).mono ?_; rintro e w2 ⟨rfl, hb⟩; replace HB := Lib.hid (nextB HB.out hb); clear hb))
    exact bodyPost_ret (results_tmp rfl _ _ _) rfl ⟨rfl, HB.out⟩
  · have A := Lib.hid a
    cases b : inB a1 1 400
    · have B := Lib.hid b
      rw [HF.out (by simp [okL, b])] at HL
      clear a b HS HF
      go_enter Tryz.func5, Tryz.ntmps5
      go_wp2_with (first
        | (go_at_call 22; refine (HL.out _).mono ?_; rintro e w1 ⟨rfl, rfl⟩)
        | (go_at_call 24; refine (just1_c _ _).mono ?_; rintro e w2 ⟨rfl, hb⟩; replace HB := Lib.hid (nextB HB.out hb); clear hb)
        | (go_at_call 23; refine (Span_c _ _ _ _ _ (by omega) (by omega) _).mono ?_; rintro e w2 ⟨rfl, hb⟩; replace HB := Lib.hid (nextB HB.out hb); clear hb; rw [ord_just]; first | rw [A.out] | rw [B.out])
        | (go_at_call 15; refine (knownLaw_c _).mono ?_; rintro e w2 ⟨rfl, hb⟩; replace HB := Lib.hid (nextB HB.out hb); clear hb))
      exact bodyPost_ret (results_tmp rfl _ _ _) rfl ⟨rfl, HB.out⟩
    · have B := Lib.hid b
      cases c : inB a2 0 40
      · have C := Lib.hid c
        rw [HF.out (by simp [okL, c])] at HL
        clear a b c HS HF
        go_enter Tryz.func5, Tryz.ntmps5
        go_wp2_with (first
          | (go_at_call 22; refine (HL.out _).mono ?_; rintro e w1 ⟨rfl, rfl⟩)
          | (go_at_call 24; refine (just1_c _ _).mono ?_; rintro e w2 ⟨rfl, hb⟩; replace HB := Lib.hid (nextB HB.out hb); clear hb)
          | (go_at_call 23; refine (Span_c _ _ _ _ _ (by omega) (by omega) _).mono ?_; rintro e w2 ⟨rfl, hb⟩; replace HB := Lib.hid (nextB HB.out hb); clear hb; rw [ord_just]; first | rw [A.out] | rw [B.out] | rw [C.out])
          | (go_at_call 15; refine (knownLaw_c _).mono ?_; rintro e w2 ⟨rfl, hb⟩; replace HB := Lib.hid (nextB HB.out hb); clear hb))
        exact bodyPost_ret (results_tmp rfl _ _ _) rfl ⟨rfl, HB.out⟩
      · have C := Lib.hid c
        cases d : inB a3 0 240
        · have D := Lib.hid d
          rw [HF.out (by simp [okL, d])] at HL
          clear a b c d HS HF
          go_enter Tryz.func5, Tryz.ntmps5
          go_wp2_with (first
            | (go_at_call 22; refine (HL.out _).mono ?_; rintro e w1 ⟨rfl, rfl⟩)
            | (go_at_call 24; refine (just1_c _ _).mono ?_; rintro e w2 ⟨rfl, hb⟩; replace HB := Lib.hid (nextB HB.out hb); clear hb)
            | (go_at_call 23; refine (Span_c _ _ _ _ _ (by omega) (by omega) _).mono ?_; rintro e w2 ⟨rfl, hb⟩; replace HB := Lib.hid (nextB HB.out hb); clear hb; rw [ord_just]; first | rw [A.out] | rw [B.out] | rw [C.out] | rw [D.out])
            | (go_at_call 15; refine (knownLaw_c _).mono ?_; rintro e w2 ⟨rfl, hb⟩; replace HB := Lib.hid (nextB HB.out hb); clear hb))
          exact bodyPost_ret (results_tmp rfl _ _ _) rfl ⟨rfl, HB.out⟩
        · have D := Lib.hid d
          rw [HS.out (by simp [okL, a, b, c, d])] at HL
          have p1 := of_decide_eq_true a; have p2 := of_decide_eq_true b; have p3 := of_decide_eq_true c; have p4 := of_decide_eq_true d
          obtain ⟨n, rfl⟩ : ∃ n : Nat, a3 = n := ⟨a3.toNat, by omega⟩
          have HR := Lib.hid fun (W : World) => refLoad_c a0 a1 a2 n (by omega) (by omega) (by omega) (by omega) W
          rw [Int.toNat_natCast] at HL
          generalize loadF a0 a1 a2 n = v at *
          clear a b c d HS HF p1 p2 p3 p4
          go_enter Tryz.func5, Tryz.ntmps5
          go_wp2_with (first
            | (go_at_call 22; refine (HL.out _).mono ?_; rintro e w1 ⟨rfl, rfl⟩)
            | (go_at_call 24; refine (just1_c _ _).mono ?_; rintro e w2 ⟨rfl, hb⟩; replace HB := Lib.hid (nextB HB.out hb); clear hb)
            | (go_at_call 23; refine (Span_c _ _ _ _ _ (by omega) (by omega) _).mono ?_; rintro e w2 ⟨rfl, hb⟩; replace HB := Lib.hid (nextB HB.out hb); clear hb; rw [ord_just]; first | rw [A.out] | rw [B.out] | rw [C.out] | rw [D.out])
            | (go_at_call 25; refine (HR.out _).mono ?_; rintro e w1 ⟨rfl, rfl⟩)
            | (go_at_call 15; refine (knownLaw_c _).mono ?_; rintro e w2 ⟨rfl, hb⟩; replace HB := Lib.hid (nextB HB.out hb); clear hb))
          exact bodyPost_ret (results_tmp rfl _ _ _) rfl ⟨rfl, HB.out⟩
end Go.Proofs
namespace Go.Proofs.YtahochgbkhpefaaGreatDoor
open Go.ChangeShapes Go.WideShapes Go.ChangeAt Go.RowKit

theorem own : ownKnob Tryz.prog.godebug = none := by kernel_rfl
theorem door_met (os : Os) (args : Array Value) : laidMetH Tryz.prog Rows.gasLoadsRow.laid ((World.doorLaid Tryz.prog 400 os).forCall (fun _ _ => 0) ⟨#[], args, []⟩).memory :=
  laidMetH_of_parts3 (fuel := 8) (laidMet_of_run' 8 (by kernel_rfl) (by kernel_rfl)) (by kernel_rfl) (by kernel_rfl)

set_option maxRecDepth 100000 in
theorem lifted (os : Os) (started : os.Started) (H : Type) (enc : TypeId × Value → H) :
    ReturnsInHanded {} Tryz.checked os 5 .any (fun w args => (Rows.gasLoadsSpec.pre enc Tryz.prog Tryz.f5 [] false w args ∧ laidMetH Tryz.prog Rows.gasLoadsRow.laid w) ∧ sizedMet enc Tryz.prog Tryz.f5 (OpenSpec.ofChange Rows.gasLoadsSpec) false w args)
      (Rows.gasLoadsSpec.post enc Tryz.prog Tryz.f5 false true false false) := by
  refine returnsInHanded_of_change_and (C := Tryz.checked) (X := fun w _ => laidMetH Tryz.prog Rows.gasLoadsRow.laid w) (fun _ _ _ hh h => h.of_heap hh) own started (by kernel_rfl) Tryz.func5
    (ChangeSpec.witness_shaped (enc := enc) (C := Tryz.checked) (os := os) (X := fun w _ => laidMetH Tryz.prog Rows.gasLoadsRow.laid w) false (World.doorLaid Tryz.prog 400 os) #[.int .i64 0, .int .i64 0, .int .i64 0, .int .i64 0] 8 rfl (World.shaped_of_RefB (by kernel_rfl) (by kernel_rfl)) (by kernel_rfl) (by kernel_rfl) (by kernel_rfl) (door_met os _)) ?_
  intro W base args ds gs before hval0 hW _ _ hL _
  have hval : ∀ (j : Nat) t v, Tryz.f5.params[j]? = some t → args[j]? = some v → Value.okWide Tryz.prog W .any base t v := hval0
  have hW' := hW
  obtain ⟨p, q, hA0, hV, rfl, hfz, hnd⟩ := hW
  have hA : DataW.TrodAll enc Tryz.prog W 0 (fun _ => true) true Tryz.f5.params.toList args.toList ds p := hA0
  rw [Tryz.params5] at hA hval
  obtain ⟨v0, vs0, d0, ds0, p0, q0, hargs, rfl, rfl, h0, r0⟩ := trodAll_cons hA
  obtain ⟨v1, vs1, d1, ds1, p1, q1, rfl, rfl, rfl, h1, r1⟩ := trodAll_cons r0
  obtain ⟨v2, vs2, d2, ds2, p2, q2, rfl, rfl, rfl, h2, r2⟩ := trodAll_cons r1
  obtain ⟨v3, vs3, d3, ds3, p3, q3, rfl, rfl, rfl, h3, r3⟩ := trodAll_cons r2
  obtain ⟨rfl, rfl, rfl⟩ := trodAll_nil r3
  obtain rfl : args = #[v0, v1, v2, v3] := by cases args; simp_all
  obtain ⟨rfl, rfl⟩ := trodVars_none hV
  obtain ⟨a0, rfl, rfl, rfl, w0⟩ := open_int Tryz.underlying3 (hval 0 3 v0 rfl rfl) h0
  obtain ⟨a1, rfl, rfl, rfl, w1⟩ := open_int Tryz.underlying3 (hval 1 3 v1 rfl rfl) h1
  obtain ⟨a2, rfl, rfl, rfl, w2⟩ := open_int Tryz.underlying3 (hval 2 3 v2 rfl rfl) h2
  obtain ⟨a3, rfl, rfl, rfl, w3⟩ := open_int Tryz.underlying3 (hval 3 3 v3 rfl rfl) h3
  clear hA0 hval0
  simp only [List.append_nil] at hW'
  refine (gasLoads_walk a0 a1 a2 a3 W).mono fun e W' ⟨he, bel⟩ => ?_
  subst he
  exact ⟨_, rfl, _, _, _, [], _, [], hW', trodAll_mk1 (shut_bool Tryz.underlying4 _), (trodAll_cons_mk (shut_int Tryz.underlying3 w0) (trodAll_cons_mk (shut_int Tryz.underlying3 w1) (trodAll_cons_mk (shut_int Tryz.underlying3 w2) (trodAll_cons_mk (shut_int Tryz.underlying3 w3) trodAll_mk0)))), rfl, bel.frame _, fun h => by cases h⟩

theorem row_holds : Rows.GasLoadsSaid :=
  OpenClaim.holds_of_wide 5 Tryz.f5 rfl rfl rfl rfl rfl rfl rfl ⟨rfl, rfl, rfl, rfl, rfl⟩ rfl rfl rfl rfl rfl (by kernel_rfl) Tryz.func5 (by kernel_rfl)
    (of_decide_eq_true (by kernel_rfl)) (by unfold Func.isWrapper; first | (rw [if_pos (by decide +kernel)]; kernel_rfl) | (rw [if_neg (by decide +kernel)]; exact ⟨rfl, rfl⟩))
    (fun os started H enc _ => lifted os started H enc)

theorem gasLoads_holds : Rows.GasLoadsCardSaid :=
  Claim7.holds_tied_plain_at .later [] [.data, .data, .data] true (true, "7950fa0371113510b48b1005210e74e0fffa460a27dcdf5d658d223fe2172657") true
    row_holds (fun _ h => by cases h) (by kernel_rfl) (fun _ h => by cases h) gasLoads_row_tie rfl ⟨rfl, rfl⟩ (by kernel_rfl) rfl
    (fun f fn hf hfn => by
      obtain rfl : f = 5 := Option.some.inj ((show Tryz.prog.funcNamed "bathyal/bathyallaw02.GasLoads" = some 5 by kernel_rfl).symm.trans hf) |>.symm
      obtain rfl : fn = Tryz.f5 := (Option.some.inj (Tryz.func5.symm.trans hfn)).symm
      exact ⟨by kernel_rfl, fun j t ht => by
        rw [Tryz.params5] at ht
        have hm : t ∈ [3, 3, 3, 3] := by simpa using Array.mem_of_getElem? ht
        have hall : ([3, 3, 3, 3].all fun u => !Tryz.prog.wantsStandIn u) = true := by kernel_rfl
        exact (show Tryz.prog.wantsStandIn t = false by simpa using List.all_eq_true.1 hall t hm)⟩)
    (by kernel_rfl)
#print axioms gasLoads_holds
end Go.Proofs.YtahochgbkhpefaaGreatDoor
