/-
  The statement ShareSettles holds for every input: the law returns true and what came in reads as before.
-/
import Derived.Test.YtplhaohcmhepbaaGreatDoorP14
import Derived.Test.YtplhaohcmhepbaaGreatDoorP13
import Derived.Test.YtplhaohcmhepbaaGreatDoorP17
import Derived.Test.YtplhaohcmhepbaaGreatDoorRows
import Derived.Test.YtplhaohcmhepbaaGreatDoorTie
import Derived.Test.YtplhaohcmhepbaaGreatDoorCards
import Derived.Test.YtplhaohcmhepbaaGreatDoorChecked
import Derived.ProofKit
import Derived.OpenShut
import Derived.LaidMore
import Derived.Stop.Joined
import Derived.SevenTiedAt
import Derived.Carry
import Derived.Lay
namespace Go.Proofs
open Go.RowKit Go.Shelf
attribute [local go_sem ↓] Go.wp_at_zero Go.wp_at_succ

set_option maxHeartbeats 4000000 in
set_option maxRecDepth 20000 in
theorem shareSettles_walk (s : Sv) (w : World) (hi : s.In w) (hI : ItoaAll w) : Calls Tryz.prog 4 #[s.val] w fun e w' => e = .returned (.bool true) ∧ Below w.heap.size w w' := by
  have HSh := Lib.hid fun (W : World) => short_c s W
  have HK := Lib.hid fun (W : World) (hb : Below w.heap.size w W) => knownLaw_c W (hI.keep hb)
  cases h0 : shortB s
  · rw [h0] at HSh
    clear h0 hi hI
    obtain ⟨pA, lA, pn, pc, ln, lc, ps, ls⟩ := s
    simp only [Sv.val] at *
    have EE := Lib.hid (SBx.start w #[.slice pA pn pc, .slice lA ln lc])
    go_enter Tryz.func4, Tryz.ntmps4
    go_wp2_with (first
      | (refine wpList_load_row rfl 25 _ rfl w.heap.size rfl 25 _ (0, 0) _ EE.out.box Tryz.underlying25 rfl (by kernel_rfl) ?_)
      | (go_at_call 23; refine (HSh.out _).mono ?_; rintro e w1 ⟨rfl, hb⟩; replace EE := Lib.hid (EE.out.keep hb); clear hb)
      | (go_at_call 24; refine (HK.out _ EE.out.below).mono ?_; rintro e w2 ⟨rfl, hb⟩; replace EE := Lib.hid (EE.out.keep hb); clear hb))
    exact bodyPost_ret (results_tmp rfl _ _ _) rfl ⟨rfl, EE.out.below⟩
  · have hsm : s.pn ≤ 9 ∧ s.ln ≤ 9 := by simpa [shortB] using h0
    rw [h0] at HSh
    have HSe := Lib.hid fun (W : World) (hb : Below w.heap.size w W) => refSeason_c s (by omega) (by omega) W (hi.keep hb)
    cases h1 : seasonB s.ps s.ls
    · have HCl := Lib.hid fun (W : World) (hb : Below w.heap.size w W) => settle_no s (by omega) (by omega) h1 W (hi.keep hb)
      rw [h1] at HSe
      clear h0 h1 hi hI
      obtain ⟨pA, lA, pn, pc, ln, lc, ps, ls⟩ := s
      simp only [Sv.val] at *
      have EE := Lib.hid (SBx.start w #[.slice pA pn pc, .slice lA ln lc])
      go_enter Tryz.func4, Tryz.ntmps4
      go_wp2_with (first
        | (refine wpList_load_row rfl 25 _ rfl w.heap.size rfl 25 _ (0, 0) _ EE.out.box Tryz.underlying25 rfl (by kernel_rfl) ?_)
        | (go_at_call 23; refine (HSh.out _).mono ?_; rintro e w1 ⟨rfl, hb⟩; replace EE := Lib.hid (EE.out.keep hb); clear hb)
        | (go_at_call 31; refine (HCl.out _ EE.out.below).mono ?_; rintro e w2 ⟨rfl, hb⟩; replace EE := Lib.hid (EE.out.keep hb); clear hb)
        | (go_at_call 27; refine (HSe.out _ EE.out.below).mono ?_; rintro e w2 ⟨rfl, hb⟩; replace EE := Lib.hid (EE.out.keep hb); clear hb)
        | (go_at_call 24; refine (HK.out _ EE.out.below).mono ?_; rintro e w2 ⟨rfl, hb⟩; replace EE := Lib.hid (EE.out.keep hb); clear hb))
      exact bodyPost_ret (results_tmp rfl _ _ _) rfl ⟨rfl, EE.out.below⟩
    · have hs := (seas_iff _ _).1 h1
      have HCl := Lib.hid fun (W : World) (hb : Below w.heap.size w W) => settle_ok s hs W (hi.keep hb)
      have HRl := Lib.hid fun (W : World) (hb : Below w.heap.size w W) => refSettle_c s hs W (hi.keep hb)
      have HTl := Lib.hid (show (endsF s.ps s.ls).length ≤ 1000000 by have := hs.six; rw [endsFLen]; omega)
      rw [h1] at HSe
      clear h0 h1 hi hI hs
      obtain ⟨pA, lA, pn, pc, ln, lc, ps, ls⟩ := s
      simp only [Sv.val] at *
      generalize endsF ps ls = TL at *
      generalize boxF ps ls = D at *
      have EE := Lib.hid (SBx.start w #[.slice pA pn pc, .slice lA ln lc])
      go_enter Tryz.func4, Tryz.ntmps4
      go_wp2_with (first
        | (refine wpList_load_row rfl 25 _ rfl w.heap.size rfl 25 _ (0, 0) _ EE.out.box Tryz.underlying25 rfl (by kernel_rfl) ?_)
        | (go_at_call 23; refine (HSh.out _).mono ?_; rintro e w1 ⟨rfl, hb⟩; replace EE := Lib.hid (EE.out.keep hb); clear hb)
        | (go_at_call 31; refine (HCl.out _ EE.out.below).mono ?_; rintro e w3 ⟨v3, rfl, ho, hb⟩; replace EE := Lib.hid (EE.out.keep hb); obtain ⟨A3, c3, rfl, hs3, _⟩ := ho.sl; have S3 := Lib.hid hs3; clear hb ho hs3)
        | (go_at_call 27; refine (HSe.out _ EE.out.below).mono ?_; rintro e w4 ⟨rfl, hb⟩; replace EE := Lib.hid (EE.out.keep hb); have ct := EE.out.box.cell; replace S3 := Lib.hid (S3.out.keep hb); clear hb)
        | (go_at_call 32; refine (HRl.out _ EE.out.below).mono ?_; rintro e w6 ⟨v6, rfl, ho, hb⟩; replace EE := Lib.hid (EE.out.keep hb); replace S3 := Lib.hid (S3.out.keep hb); obtain ⟨A6, c6, rfl, hs6, _⟩ := ho.sl; have S6 := Lib.hid hs6; clear hb ho hs6)
        | (go_at_call 33; refine (sameEnds_c A3 A6 _ _ c3 c6 TL TL HTl.out _ S3.out S6.out).mono ?_; rintro e w7 ⟨rfl, hb⟩; rw [decide_eq_true (rfl : TL = TL)]; replace EE := Lib.hid (EE.out.keep hb); clear hb)
        | (go_at_call 24; refine (HK.out _ EE.out.below).mono ?_; rintro e w8 ⟨rfl, hb⟩; replace EE := Lib.hid (EE.out.keep hb); clear hb))
      exact bodyPost_ret (results_tmp rfl _ _ _) rfl ⟨rfl, EE.out.below⟩
end Go.Proofs
namespace Go.Proofs.YtplhaohcmhepbaaGreatDoor.shareSettles
open Go.ChangeShapes Go.WideShapes Go.ChangeAt Go.RowKit Go.Proofs

theorem own : ownKnob Tryz.prog.godebug = none := f_own
theorem laidOut : laidOutB Tryz.prog = true := f_laid
set_option maxRecDepth 100000 in
theorem lifted (os : Os) (started : os.Started) (H : Type) (enc : TypeId × Value → H) :
    ReturnsInHanded {} Tryz.checked os 4 .any (fun w args => (Rows.shareSettlesSpec.pre enc Tryz.prog Tryz.f4 [] false w args ∧ laidMetH Tryz.prog Rows.shareSettlesRow.laid w) ∧ sizedMet enc Tryz.prog Tryz.f4 (OpenSpec.ofChange Rows.shareSettlesSpec) false w args)
      (Rows.shareSettlesSpec.post enc Tryz.prog Tryz.f4 false true false false) := by
  refine returnsInHanded_of_change_and (C := Tryz.checked) (X := fun w _ => laidMetH Tryz.prog Rows.shareSettlesRow.laid w) (fun _ _ _ hh h => h.of_heap hh) own started (by kernel_rfl) Tryz.func4
    (ChangeSpec.witness_shaped (enc := enc) (C := Tryz.checked) (os := os) (X := fun w _ => laidMetH Tryz.prog Rows.shareSettlesRow.laid w) false (World.laidAll Tryz.prog os Rows.shareSettlesRow.laid) #[.agg #[.slice none 0 0, .slice none 0 0]] 8 (World.laidAll_os _ _ _) (World.shaped_of_ZipB (by kernel_rfl) (by kernel_rfl)) (by kernel_rfl) (by kernel_rfl) (by kernel_rfl) (by rw [MakeChecks.laidMetH_plain _ _ _ (by kernel_rfl)]; exact laidMet_laidAll _ (by kernel_rfl) (by kernel_rfl))) ?_
  intro W base args ds gs before hval0 hW _ _ hL _
  have hval : ∀ (j : Nat) t v, Tryz.f4.params[j]? = some t → args[j]? = some v → Value.okWide Tryz.prog W .any base t v := hval0
  have hW' := hW
  obtain ⟨p, q, hA0, hV, rfl, hfz, hnd⟩ := hW
  have hA : DataW.TrodAll enc Tryz.prog W 0 (fun _ => true) true Tryz.f4.params.toList args.toList ds p := hA0
  rw [Tryz.params4] at hA hval
  obtain ⟨v0, vs0, d0, ds0, p0, q0, hargs, rfl, rfl, h0, r0⟩ := trodAll_cons hA
  obtain ⟨rfl, rfl, rfl⟩ := trodAll_nil r0
  obtain rfl : args = #[v0] := by cases args; simp_all
  obtain ⟨rfl, rfl⟩ := trodVars_none hV
  have k0 := h0
  have lt0 : ∀ x ∈ p0, x.block < W.heap.size := by obtain ⟨m, hm⟩ := k0; exact DataW.trod_lt m _ _ _ hm
  have u0 := hval 0 25 v0 rfl rfl
  obtain ⟨s0, rfl, hd0, wp0, wl0, hx0⟩ := arg_season u0 h0
  have htab := tab_of_laid (show laidMet Tryz.prog Rows.shareSettlesRow.laid W from hL)
  clear hA0 hval0
  simp only [List.append_nil] at hW'
  refine (shareSettles_walk s0 W hd0 (itoa_tab htab)).mono fun e W' ⟨he, bel⟩ => ?_
  subst he
  exact ⟨_, rfl, _, _, _, [], _, [], hW', trodAll_mk1 (shut_bool Tryz.underlying4 _), (trodAll_cons_mk (Below.trod laidOut (by kernel_rfl) (of_decide_eq_true (by kernel_rfl)) k0 bel lt0) trodAll_mk0), rfl, bel.frame _, fun h => by cases h⟩

theorem both_true {a b : Bool} (h : a = true) (g : b = true) : (a && b) = true := by rw [h, g]; rfl
set_option maxHeartbeats 16000000 in
theorem closed : joinedFacts Tryz.prog 4 Tryz.f4 Rows.shareSettlesSpec Rows.shareSettlesRow = true := by
  unfold joinedFacts
  repeat' (with_reducible refine both_true ?_ ?_)
  all_goals first | (with_reducible exact f_laid) | (with_reducible exact f_rowed) | (with_reducible exact f_heard) | (with_reducible exact f_enter) | (with_reducible rw [f_keys]; as_aux_lemma => kernel_rfl) | (with_reducible rw [f_lift]; as_aux_lemma => kernel_rfl) | (with_reducible rw [f_make]; as_aux_lemma => kernel_rfl) | (as_aux_lemma => kernel_rfl)

theorem row_holds : Rows.ShareSettlesSaid :=
  OpenClaim.holds_of_wide 4 Tryz.f4 rfl rfl rfl rfl rfl rfl rfl ⟨rfl, rfl, rfl, rfl, rfl⟩ rfl rfl rfl rfl rfl (by as_aux_lemma => kernel_rfl) Tryz.func4 closed
    (of_decide_eq_true (by kernel_rfl)) (by unfold Func.isWrapper; first | (rw [if_pos (by decide +kernel)]; kernel_rfl) | (rw [if_neg (by decide +kernel)]; exact ⟨rfl, rfl⟩))
    (fun os started H enc _ => lifted os started H enc)

set_option maxHeartbeats 8000000 in
theorem shareSettles_holds : Rows.ShareSettlesCardSaid :=
  Claim7.holds_tied_plain_at .later [] [.data, .data, .data, .data, .pinned] true (true, "7e62b5f23aa16cc2579dbf745918b39c2216085a6a4405f0c28cfd6d2389e0e4") true
    row_holds (fun _ h => by cases h) (by as_aux_lemma => kernel_rfl) (fun _ h => by cases h) shareSettles_row_tie rfl ⟨rfl, rfl⟩ (by as_aux_lemma => kernel_rfl) rfl
    (fun f fn hf hfn => by
      obtain rfl : f = 4 := Option.some.inj ((show Tryz.prog.funcNamed "bathyal/bathyallaw05.ShareSettles" = some 4 by kernel_rfl).symm.trans hf) |>.symm
      obtain rfl : fn = Tryz.f4 := (Option.some.inj (Tryz.func4.symm.trans hfn)).symm
      exact ⟨by kernel_rfl, fun j t ht => by
        rw [Tryz.params4] at ht
        have hm : t ∈ [25] := by simpa using Array.mem_of_getElem? ht
        have hall : ([25].all fun u => !Tryz.prog.wantsStandIn u) = true := by kernel_rfl
        exact (show Tryz.prog.wantsStandIn t = false by simpa using List.all_eq_true.1 hall t hm)⟩)
    (by as_aux_lemma => kernel_rfl)
#print axioms shareSettles_holds
end Go.Proofs.YtplhaohcmhepbaaGreatDoor.shareSettles
