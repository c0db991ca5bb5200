/-
  The statement GasLimits holds for every input: the law returns true and what came in reads as before.
-/
import Derived.Test.YtahochgbkhpefaaGreatDoorP13
import Derived.Test.YtahochgbkhpefaaGreatDoorP11
import Derived.Test.YtahochgbkhpefaaGreatDoorRows
import Derived.Test.YtahochgbkhpefaaGreatDoorTie
import Derived.Test.YtahochgbkhpefaaGreatDoorCards
import Derived.Test.YtahochgbkhpefaaGreatDoorChecked
import Derived.ProofKit
import Derived.OpenShut
import Derived.LaidMore
import Derived.Stop.Joined
import Derived.SevenTiedAt
import Derived.Carry
namespace Go.Proofs
open Go.RowKit Go.Shelf Gas
attribute [local go_sem ↓] Go.wp_at_zero Go.wp_at_succ

set_option maxHeartbeats 4000000 in
set_option maxRecDepth 50000 in
theorem gasLimits_walk (t : Tm) (l g : Int) (w : World) (hi : t.In w) :
    Calls Tryz.prog 12 #[t.tab, t.man, .agg #[.int .i64 l, .int .i64 g]] w fun e w' => e = .returned (.bool true) ∧ Below w.heap.size w w' := by
  have HSh := Lib.hid fun (W : World) => short_c t none 0 0 W
  have E0 := Lib.hid (Bx.start w t l g)
  cases hs : shortB t 0
  · rw [hs] at HSh
    clear hs hi
    obtain ⟨pA, sA, rA, pn, pc, sn, sc, rn, rc, ps, ss, rs⟩ := t
    simp only [Tm.tab, Tm.man] at *
    go_enter Tryz.func12, Tryz.ntmps12
    go_wp2_with (first
      | (go_at_call 26; refine (HSh.out _).mono ?_; rintro e w1 ⟨rfl, hb⟩; have EE := Lib.hid (E0.out.keep hb); clear hb)
      | (go_at_call 15; refine (knownLaw_c _).mono ?_; rintro e w2 ⟨rfl, hb⟩; have HB := Lib.hid (nextB EE.out.below hb); clear hb))
    exact bodyPost_ret (results_tmp rfl _ _ _) rfl ⟨rfl, HB.out⟩
  · rw [hs] at HSh
    obtain ⟨hsm, _⟩ := short_small hs
    have hrn : t.rs.length ≤ 100 := by
      have := hi.rs.1
      simp only [shortB, decide_eq_true_eq] at hs
      omega
    have HFi := Lib.hid fun (W : World) (hb : Below w.heap.size w W) => fine_c t hsm none 0 0 [] (by omega) W (hi.keep hb) (SlOf.nil _ _ _)
    have HFa := Lib.hid fun (W : World) => fathoms_c l g W
    have HLi := Lib.hid fun (W : World) (hb : Below w.heap.size w W) => Limit_c t hsm l g W (hi.keep hb)
    have HRL := Lib.hid fun (hd : definedB t.ps t.ss t.rs [] 0 = true) (ho : ordB l g 0 40 6 = true) (W : World) (hb : Below w.heap.size w W) => refLimit_c t (defined_ok hsm hi hd).1 l g ho hrn W (hi.keep hb)
    have hbd := lead_bd (limitP t.ps t.rs (h0, true) l g)
    cases hd : definedB t.ps t.ss t.rs [] 0
    · rw [hd] at HFi
      rw [show limitF t l g = (0, 2) by simp [limitF, hd]] at HLi
      clear hs hi hsm hd hbd HRL hrn
      obtain ⟨pA, sA, rA, pn, pc, sn, sc, rn, rc, ps, ss, rs⟩ := t
      simp only [Tm.tab, Tm.man] at *
      go_enter Tryz.func12, Tryz.ntmps12
      go_wp2_with (first
        | (go_at_call 26; refine (HSh.out _).mono ?_; rintro e w1 ⟨rfl, hb⟩; have EE := Lib.hid (E0.out.keep hb); have ct := EE.out.tab.cell; have cm := EE.out.man.cell; have cs := EE.out.sp.cell; clear hb)
        | (go_at_call 49; refine (HLi.out _ EE.out.below).mono ?_; rintro e w4 ⟨rfl, hb⟩; replace EE := Lib.hid (EE.out.keep hb); replace ct := EE.out.tab.cell; replace cm := EE.out.man.cell; replace cs := EE.out.sp.cell; clear hb)
        | (go_at_call 32; refine (HFi.out _ EE.out.below).mono ?_; rintro e w2 ⟨rfl, hb⟩; replace EE := Lib.hid (EE.out.keep hb); replace ct := EE.out.tab.cell; replace cm := EE.out.man.cell; replace cs := EE.out.sp.cell; clear hb)
        | (go_at_call 15; refine (knownLaw_c _).mono ?_; rintro e w2 ⟨rfl, hb⟩; have HB := Lib.hid (nextB EE.out.below hb); clear hb))
      exact bodyPost_ret (results_tmp rfl _ _ _) rfl ⟨rfl, HB.out⟩
    · rw [hd] at HFi
      cases ho : ordB l g 0 40 6
      · rw [ho] at HFa
        rw [show limitF t l g = (0, 2) by simp [limitF, ho]] at HLi
        clear hs hi hsm hd ho hbd HRL hrn
        obtain ⟨pA, sA, rA, pn, pc, sn, sc, rn, rc, ps, ss, rs⟩ := t
        simp only [Tm.tab, Tm.man] at *
        go_enter Tryz.func12, Tryz.ntmps12
        go_wp2_with (first
          | (go_at_call 26; refine (HSh.out _).mono ?_; rintro e w1 ⟨rfl, hb⟩; have EE := Lib.hid (E0.out.keep hb); have ct := EE.out.tab.cell; have cm := EE.out.man.cell; have cs := EE.out.sp.cell; clear hb)
          | (go_at_call 49; refine (HLi.out _ EE.out.below).mono ?_; rintro e w4 ⟨rfl, hb⟩; replace EE := Lib.hid (EE.out.keep hb); replace ct := EE.out.tab.cell; replace cm := EE.out.man.cell; replace cs := EE.out.sp.cell; clear hb)
          | (go_at_call 32; refine (HFi.out _ EE.out.below).mono ?_; rintro e w2 ⟨rfl, hb⟩; replace EE := Lib.hid (EE.out.keep hb); replace ct := EE.out.tab.cell; replace cm := EE.out.man.cell; replace cs := EE.out.sp.cell; clear hb)
          | (go_at_call 50; refine (HFa.out _).mono ?_; rintro e w3 ⟨rfl, hb⟩; replace EE := Lib.hid (EE.out.keep hb); replace ct := EE.out.tab.cell; replace cm := EE.out.man.cell; replace cs := EE.out.sp.cell; clear hb)
          | (go_at_call 15; refine (knownLaw_c _).mono ?_; rintro e w2 ⟨rfl, hb⟩; have HB := Lib.hid (nextB EE.out.below hb); clear hb))
        exact bodyPost_ret (results_tmp rfl _ _ _) rfl ⟨rfl, HB.out⟩
      · rw [ho] at HFa
        rw [show limitF t l g = (latV (lead (limitP t.ps t.rs (h0, true) l g)), latE (lead (limitP t.ps t.rs (h0, true) l g))) by simp [limitF, hd, ho]] at HLi
        replace HRL := Lib.hid (HRL.out hd ho)
        clear hs hi hsm hd ho hrn
        generalize lead (limitP t.ps t.rs (h0, true) l g) = L at *
        obtain ⟨pA, sA, rA, pn, pc, sn, sc, rn, rc, ps, ss, rs⟩ := t
        simp only [Tm.tab, Tm.man] at *
        by_cases hL : L = 0
        all_goals
          first
            | (subst hL; rw [show latV 0 = 0 from rfl, show latE 0 = 5 from rfl] at HLi)
            | (rw [show latV L = L - 1 by simp [latV, hL], show latE L = 0 by simp [latE, hL]] at HLi)
          go_enter Tryz.func12, Tryz.ntmps12
          go_wp2_with (first
            | (go_at_call 26; refine (HSh.out _).mono ?_; rintro e w1 ⟨rfl, hb⟩; have EE := Lib.hid (E0.out.keep hb); have ct := EE.out.tab.cell; have cm := EE.out.man.cell; have cs := EE.out.sp.cell; clear hb)
            | (go_at_call 49; refine (HLi.out _ EE.out.below).mono ?_; rintro e w4 ⟨rfl, hb⟩; replace EE := Lib.hid (EE.out.keep hb); replace ct := EE.out.tab.cell; replace cm := EE.out.man.cell; replace cs := EE.out.sp.cell; clear hb)
            | (go_at_call 32; refine (HFi.out _ EE.out.below).mono ?_; rintro e w2 ⟨rfl, hb⟩; replace EE := Lib.hid (EE.out.keep hb); replace ct := EE.out.tab.cell; replace cm := EE.out.man.cell; replace cs := EE.out.sp.cell; clear hb)
            | (go_at_call 50; refine (HFa.out _).mono ?_; rintro e w3 ⟨rfl, hb⟩; replace EE := Lib.hid (EE.out.keep hb); replace ct := EE.out.tab.cell; replace cm := EE.out.man.cell; replace cs := EE.out.sp.cell; clear hb)
            | (go_at_call 51; refine (HRL.out _ EE.out.below).mono ?_; rintro e w5 ⟨rfl, hb⟩; replace EE := Lib.hid (EE.out.keep hb); clear hb)
            | (go_at_call 15; refine (knownLaw_c _).mono ?_; rintro e w2 ⟨rfl, hb⟩; have HB := Lib.hid (nextB EE.out.below hb); clear hb))
          exact bodyPost_ret (results_tmp rfl _ _ _) rfl ⟨rfl, HB.out⟩
end Go.Proofs
namespace Go.Proofs.YtahochgbkhpefaaGreatDoor.gasLimits
open Go.ChangeShapes Go.WideShapes Go.ChangeAt Go.RowKit Go.Proofs

theorem own : ownKnob Tryz.prog.godebug = none := by kernel_rfl
theorem laidOut : laidOutB Tryz.prog = true := by kernel_rfl
theorem door_met (os : Os) (args : Array Value) : laidMetH Tryz.prog Rows.gasLimitsRow.laid ((World.doorLaid Tryz.prog 400 os).forCall (fun _ _ => 0) ⟨#[], args, []⟩).memory :=
  laidMetH_of_parts3 (fuel := 8) (laidMet_of_run' 8 (by kernel_rfl) (by kernel_rfl)) (by kernel_rfl) (by kernel_rfl)

set_option maxRecDepth 100000 in
theorem lifted (os : Os) (started : os.Started) (H : Type) (enc : TypeId × Value → H) :
    ReturnsInHanded {} Tryz.checked os 12 .any (fun w args => (Rows.gasLimitsSpec.pre enc Tryz.prog Tryz.f12 [] false w args ∧ laidMetH Tryz.prog Rows.gasLimitsRow.laid w) ∧ sizedMet enc Tryz.prog Tryz.f12 (OpenSpec.ofChange Rows.gasLimitsSpec) false w args)
      (Rows.gasLimitsSpec.post enc Tryz.prog Tryz.f12 false true false false) := by
  refine returnsInHanded_of_change_and (C := Tryz.checked) (X := fun w _ => laidMetH Tryz.prog Rows.gasLimitsRow.laid w) (fun _ _ _ hh h => h.of_heap hh) own started (by kernel_rfl) Tryz.func12
    (ChangeSpec.witness_shaped (enc := enc) (C := Tryz.checked) (os := os) (X := fun w _ => laidMetH Tryz.prog Rows.gasLimitsRow.laid w) false (World.doorLaid Tryz.prog 400 os) #[.agg #[.slice none 0 0, .slice none 0 0], .agg #[.slice none 0 0], .agg #[.int .i64 0, .int .i64 0]] 8 rfl (World.shaped_of_RefB (by kernel_rfl) (by kernel_rfl)) (by kernel_rfl) (by kernel_rfl) (by kernel_rfl) (door_met os _)) ?_
  intro W base args ds gs before hval0 hW _ _ hL _
  have hval : ∀ (j : Nat) t v, Tryz.f12.params[j]? = some t → args[j]? = some v → Value.okWide Tryz.prog W .any base t v := hval0
  have hW' := hW
  obtain ⟨p, q, hA0, hV, rfl, hfz, hnd⟩ := hW
  have hA : DataW.TrodAll enc Tryz.prog W 0 (fun _ => true) true Tryz.f12.params.toList args.toList ds p := hA0
  rw [Tryz.params12] at hA hval
  obtain ⟨v0, vs0, d0, ds0, p0, q0, hargs, rfl, rfl, h0, r0⟩ := trodAll_cons hA
  obtain ⟨v1, vs1, d1, ds1, p1, q1, rfl, rfl, rfl, h1, r1⟩ := trodAll_cons r0
  obtain ⟨v2, vs2, d2, ds2, p2, q2, rfl, rfl, rfl, h2, r2⟩ := trodAll_cons r1
  obtain ⟨rfl, rfl, rfl⟩ := trodAll_nil r2
  obtain rfl : args = #[v0, v1, v2] := by cases args; simp_all
  obtain ⟨rfl, rfl⟩ := trodVars_none hV
  have k0 := h0
  have lt0 : ∀ x ∈ p0, x.block < W.heap.size := by obtain ⟨m, hm⟩ := k0; exact DataW.trod_lt m _ _ _ hm
  have u0 := hval 0 50 v0 rfl rfl
  obtain ⟨pA, pn, pc, ps, sA, sn, sc, ss, rfl, hP, hS⟩ := arg_table u0 h0
  have k1 := h1
  have lt1 : ∀ x ∈ p1, x.block < W.heap.size := by obtain ⟨m, hm⟩ := k1; exact DataW.trod_lt m _ _ _ hm
  have u1 := hval 1 53 v1 rfl rfl
  obtain ⟨rA, rn, rc, rs, rfl, hR⟩ := arg_man u1 h1
  have k2 := h2
  have lt2 : ∀ x ∈ p2, x.block < W.heap.size := by obtain ⟨m, hm⟩ := k2; exact DataW.trod_lt m _ _ _ hm
  have u2 := hval 2 24 v2 rfl rfl
  obtain ⟨a2, b2, rfl, w2, x2⟩ := arg_span u2 h2
  clear hA0 hval0
  simp only [List.append_nil] at hW'
  refine (gasLimits_walk ⟨pA, sA, rA, pn, pc, sn, sc, rn, rc, ps, ss, rs⟩ a2 b2 W ⟨hP, hS, hR⟩).mono fun e W' ⟨he, bel⟩ => ?_
  subst he
  exact ⟨_, rfl, _, _, _, [], _, [], hW', trodAll_mk1 (shut_bool Tryz.underlying4 _), (trodAll_cons_mk (Below.trod laidOut (by kernel_rfl) (of_decide_eq_true (by kernel_rfl)) k0 bel lt0) (trodAll_cons_mk (Below.trod laidOut (by kernel_rfl) (of_decide_eq_true (by kernel_rfl)) k1 bel lt1) (trodAll_cons_mk (Below.trod laidOut (by kernel_rfl) (of_decide_eq_true (by kernel_rfl)) k2 bel lt2) trodAll_mk0))), rfl, bel.frame _, fun h => by cases h⟩

theorem row_holds : Rows.GasLimitsSaid :=
  OpenClaim.holds_of_wide 12 Tryz.f12 rfl rfl rfl rfl rfl rfl rfl ⟨rfl, rfl, rfl, rfl, rfl⟩ rfl rfl rfl rfl rfl (by kernel_rfl) Tryz.func12 (by kernel_rfl)
    (of_decide_eq_true (by kernel_rfl)) (by unfold Func.isWrapper; first | (rw [if_pos (by decide +kernel)]; kernel_rfl) | (rw [if_neg (by decide +kernel)]; exact ⟨rfl, rfl⟩))
    (fun os started H enc _ => lifted os started H enc)

theorem gasLimits_holds : Rows.GasLimitsCardSaid :=
  Claim7.holds_tied_plain_at .later [] [.data, .data, .data] true (true, "7950fa0371113510b48b1005210e74e0fffa460a27dcdf5d658d223fe2172657") true
    row_holds (fun _ h => by cases h) (by kernel_rfl) (fun _ h => by cases h) gasLimits_row_tie rfl ⟨rfl, rfl⟩ (by kernel_rfl) rfl
    (fun f fn hf hfn => by
      obtain rfl : f = 12 := Option.some.inj ((show Tryz.prog.funcNamed "bathyal/bathyallaw02.GasLimits" = some 12 by kernel_rfl).symm.trans hf) |>.symm
      obtain rfl : fn = Tryz.f12 := (Option.some.inj (Tryz.func12.symm.trans hfn)).symm
      exact ⟨by kernel_rfl, fun j t ht => by
        rw [Tryz.params12] at ht
        have hm : t ∈ [50, 53, 24] := by simpa using Array.mem_of_getElem? ht
        have hall : ([50, 53, 24].all fun u => !Tryz.prog.wantsStandIn u) = true := by kernel_rfl
        exact (show Tryz.prog.wantsStandIn t = false by simpa using List.all_eq_true.1 hall t hm)⟩)
    (by kernel_rfl)
#print axioms gasLimits_holds
end Go.Proofs.YtahochgbkhpefaaGreatDoor.gasLimits
