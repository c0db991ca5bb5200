/-
  The statement SharePrints holds for every input: the law returns true and what came in reads as before.
-/
import Derived.Test.YtplhaohcmhepbaaGreatDoorP14
import Derived.Test.YtplhaohcmhepbaaGreatDoorP16
import Derived.Test.YtplhaohcmhepbaaGreatDoorP8
import Derived.Test.YtplhaohcmhepbaaGreatDoorP13
import Derived.Test.YtplhaohcmhepbaaGreatDoorP17
import Derived.Test.YtplhaohcmhepbaaGreatDoorRows
import Derived.Test.YtplhaohcmhepbaaGreatDoorTie
import Derived.Test.YtplhaohcmhepbaaGreatDoorCards
import Derived.Test.YtplhaohcmhepbaaGreatDoorChecked
import Derived.ProofKit
import Derived.OpenShut
import Derived.LaidMore
import Derived.Stop.Joined
import Derived.SevenTiedAt
import Derived.Carry
import Derived.Lay
namespace Go.Proofs
open Go.RowKit Go.Shelf
attribute [local go_sem ↓] Go.wp_at_zero Go.wp_at_succ

theorem Own.slOf {α : Type} {e : El α} {B n c : Nat} {A : Option Addr} {xs : List α} {w : World} (h : Own e B (.slice A n c) xs w) : SlOf e.f e.sz w A n xs := by
  obtain ⟨A', c', e1, h1, _⟩ := h.sl
  simp only [Value.slice.injEq] at e1
  obtain ⟨rfl, rfl, _⟩ := e1
  exact h1
set_option maxHeartbeats 4000000 in
set_option maxRecDepth 20000 in
theorem sharePrints_walk (s : Sv) (w : World) (hi : s.In w) (hI : ItoaAll w) : Calls Tryz.prog 20 #[s.val] w fun e w' => e = .returned (.bool true) ∧ Below w.heap.size w w' := by
  have HSh := Lib.hid fun (W : World) => short_c s W
  have HK := Lib.hid fun (W : World) (hb : Below w.heap.size w W) => knownLaw_c W (hI.keep hb)
  cases h0 : shortB s
  · rw [h0] at HSh
    clear h0 hi hI
    obtain ⟨pA, lA, pn, pc, ln, lc, ps, ls⟩ := s
    simp only [Sv.val] at *
    have EE := Lib.hid (SBx.start w #[.slice pA pn pc, .slice lA ln lc])
    go_enter Tryz.func20, Tryz.ntmps20
    go_wp2_with (first
      | (refine wpList_load_row rfl 25 _ rfl w.heap.size rfl 25 _ (0, 0) _ EE.out.box Tryz.underlying25 rfl (by kernel_rfl) ?_)
      | (go_at_call 23; refine (HSh.out _).mono ?_; rintro e w1 ⟨rfl, hb⟩; replace EE := Lib.hid (EE.out.keep hb); clear hb)
      | (go_at_call 24; refine (HK.out _ EE.out.below).mono ?_; rintro e w2 ⟨rfl, hb⟩; replace EE := Lib.hid (EE.out.keep hb); clear hb))
    exact bodyPost_ret (results_tmp rfl _ _ _) rfl ⟨rfl, EE.out.below⟩
  · have hsm : s.pn ≤ 9 ∧ s.ln ≤ 9 := by simpa [shortB] using h0
    rw [h0] at HSh
    have HSe := Lib.hid fun (W : World) (hb : Below w.heap.size w W) => refSeason_c s (by omega) (by omega) W (hi.keep hb)
    have HPr := Lib.hid fun (W : World) (hb : Below w.heap.size w W) => Print_c s (by omega) (by omega) W (hi.keep hb) (hI.keep hb)
    cases h1 : seasonB s.ps s.ls
    · have hpr : prnF s.ps s.ls = [] := by simp [prnF, h1]
      rw [h1] at HSe
      rw [hpr, h1, show errI false = 2 from rfl] at HPr
      clear h0 h1 hi hI hpr hsm
      obtain ⟨pA, lA, pn, pc, ln, lc, ps, ls⟩ := s
      simp only [Sv.val] at *
      have HS0 : (bs []).toList.isEmpty = true := by decide +kernel
      have EE := Lib.hid (SBx.start w #[.slice pA pn pc, .slice lA ln lc])
      go_enter Tryz.func20, Tryz.ntmps20
      go_wp2_with (first
        | (refine wpList_load_row rfl 25 _ rfl w.heap.size rfl 25 _ (0, 0) _ EE.out.box Tryz.underlying25 rfl (by kernel_rfl) ?_)
        | (go_at_call 23; refine (HSh.out _).mono ?_; rintro e w1 ⟨rfl, hb⟩; replace EE := Lib.hid (EE.out.keep hb); clear hb)
        | (go_at_call 70; refine (HPr.out _ EE.out.below).mono ?_; rintro e w2 ⟨rfl, hb⟩; replace EE := Lib.hid (EE.out.keep hb); clear hb)
        | (go_at_call 27; refine (HSe.out _ EE.out.below).mono ?_; rintro e w2 ⟨rfl, hb⟩; replace EE := Lib.hid (EE.out.keep hb); clear hb)
        | (go_at_call 24; refine (HK.out _ EE.out.below).mono ?_; rintro e w2 ⟨rfl, hb⟩; replace EE := Lib.hid (EE.out.keep hb); clear hb))
      exact bodyPost_ret (results_tmp rfl _ _ _) rfl ⟨rfl, EE.out.below⟩
    · have hs := (seas_iff _ _).1 h1
      have hpr : prnF s.ps s.ls = textF s.ps s.ls := by simp [prnF, h1]
      have HRd := Lib.hid fun (W : World) (hb : Below w.heap.size w W) => (show Calls Tryz.prog 71 #[.string (bs (textF s.ps s.ls))] W fun e w' => ReadP (s.ps, s.ls) 0 W.heap.size e w' ∧ Below W.heap.size W w' from by
        have := Read_c (textF s.ps s.ls) W (hI.keep hb)
        rwa [hs.readText] at this)
      have HRp := Lib.hid fun (W : World) (hb : Below w.heap.size w W) => refPrint_c s hs.peT hs.laT (fun l hl => by have := hs.w64 hl; omega) (by omega) (by omega) W (hi.keep hb)
      have HSm := Lib.hid fun (A1 A2 : Option Addr) (c1 c2 : Nat) (W : World) (hb : Below w.heap.size w W) (h1 : SlOf Pe.cs 3 W A1 s.ps.length s.ps) (h2 : SlOf La.cs 3 W A2 s.ls.length s.ls) =>
        (show Calls Tryz.prog 73 #[.agg #[.slice A1 s.ps.length c1, .slice A2 s.ls.length c2], s.val] W fun e w' => e = .returned (.bool true) ∧ Below W.heap.size W w' from by
          have := sameSeason_c ⟨A1, A2, s.ps.length, c1, s.ls.length, c2, s.ps, s.ls⟩ s (by have := hs.six; simp only; omega) (by have := hs.few; simp only; omega) W ⟨h1, h2⟩ (hi.keep hb)
          rw [show decide (s.ps = s.ps ∧ s.ls = s.ls) = true from decide_eq_true ⟨rfl, rfl⟩] at this
          exact this)
      rw [h1] at HSe
      rw [hpr, h1, show errI true = 0 from rfl] at HPr
      clear h0 h1 hi hI hpr hsm hs
      obtain ⟨pA, lA, pn, pc, ln, lc, ps, ls⟩ := s
      simp only [Sv.val] at *
      generalize textF ps ls = T at *
      have EE := Lib.hid (SBx.start w #[.slice pA pn pc, .slice lA ln lc])
      go_enter Tryz.func20, Tryz.ntmps20
      go_wp2_with (first
        | (refine wpList_load_row rfl 25 _ rfl w.heap.size rfl 25 _ (0, 0) _ EE.out.box Tryz.underlying25 rfl (by kernel_rfl) ?_)
        | (go_at_call 23; refine (HSh.out _).mono ?_; rintro e w1 ⟨rfl, hb⟩; replace EE := Lib.hid (EE.out.keep hb); clear hb)
        | (go_at_call 70; refine (HPr.out _ EE.out.below).mono ?_; rintro e w2 ⟨rfl, hb⟩; replace EE := Lib.hid (EE.out.keep hb); clear hb)
        | (go_at_call 27; refine (HSe.out _ EE.out.below).mono ?_; rintro e w2 ⟨rfl, hb⟩; replace EE := Lib.hid (EE.out.keep hb); clear hb)
        | (go_at_call 71; refine (HRd.out _ EE.out.below).mono ?_; rintro e w3 ⟨⟨A1, A2, c1, c2, rfl, ho1, ho2⟩, hb⟩; replace EE := Lib.hid (EE.out.keep hb); have S1 := Lib.hid ho1.slOf; have S2 := Lib.hid ho2.slOf; clear hb ho1 ho2)
        | (refine wpList_store_all rfl 25 _ _ rfl w3.heap.size rfl _ rfl 25 _ (Has.new w3 25 _) (by kernel_rfl) rfl (by simp [Value.oneCell']) ?_; have XX := Lib.hid ((Has.new w3 25 #[.slice none 0 0, .slice none 0 0]).setRow #[.slice A1 ps.length c1, .slice A2 ls.length c2]); have hb := rowB (newB (Below.refl w3.heap.size w3) (.cells #[.slice none 0 0, .slice none 0 0] 25)) (Nat.le_refl _) #[.slice A1 ps.length c1, .slice A2 ls.length c2]; replace EE := Lib.hid (EE.out.keep hb); replace S1 := Lib.hid (S1.out.keep hb); replace S2 := Lib.hid (S2.out.keep hb); clear hb; generalize (w3.alloc (.cells #[.slice none 0 0, .slice none 0 0] 25)).setRow w3.heap.size #[.slice A1 ps.length c1, .slice A2 ls.length c2] = w4 at *; have cb := EE.out.box.cell; have cx := XX.out.cell)
        | (go_at_call 72; refine (HRp.out _ EE.out.below).mono ?_; rintro e w5 ⟨rfl, hb⟩; replace EE := Lib.hid (EE.out.keep hb); have cb := EE.out.box.cell; replace XX := Lib.hid (XX.out.after hb); have cx := XX.out.cell; replace S1 := Lib.hid (S1.out.keep hb); replace S2 := Lib.hid (S2.out.keep hb); clear hb)
        | (go_at_call 73; refine (HSm.out A1 A2 c1 c2 _ EE.out.below S1.out S2.out).mono ?_; rintro e w6 ⟨rfl, hb⟩; replace EE := Lib.hid (EE.out.keep hb); clear hb)
        | (go_at_call 24; refine (HK.out _ EE.out.below).mono ?_; rintro e w7 ⟨rfl, hb⟩; replace EE := Lib.hid (EE.out.keep hb); clear hb))
      exact bodyPost_ret (results_tmp rfl _ _ _) rfl ⟨rfl, EE.out.below⟩
end Go.Proofs
namespace Go.Proofs.YtplhaohcmhepbaaGreatDoor.sharePrints
open Go.ChangeShapes Go.WideShapes Go.ChangeAt Go.RowKit Go.Proofs

theorem own : ownKnob Tryz.prog.godebug = none := f_own
theorem laidOut : laidOutB Tryz.prog = true := f_laid
set_option maxRecDepth 100000 in
theorem lifted (os : Os) (started : os.Started) (H : Type) (enc : TypeId × Value → H) :
    ReturnsInHanded {} Tryz.checked os 20 .any (fun w args => (Rows.sharePrintsSpec.pre enc Tryz.prog Tryz.f20 [] false w args ∧ laidMetH Tryz.prog Rows.sharePrintsRow.laid w) ∧ sizedMet enc Tryz.prog Tryz.f20 (OpenSpec.ofChange Rows.sharePrintsSpec) false w args)
      (Rows.sharePrintsSpec.post enc Tryz.prog Tryz.f20 false true false false) := by
  refine returnsInHanded_of_change_and (C := Tryz.checked) (X := fun w _ => laidMetH Tryz.prog Rows.sharePrintsRow.laid w) (fun _ _ _ hh h => h.of_heap hh) own started (by kernel_rfl) Tryz.func20
    (ChangeSpec.witness_shaped (enc := enc) (C := Tryz.checked) (os := os) (X := fun w _ => laidMetH Tryz.prog Rows.sharePrintsRow.laid w) false (World.laidAll Tryz.prog os Rows.sharePrintsRow.laid) #[.agg #[.slice none 0 0, .slice none 0 0]] 8 (World.laidAll_os _ _ _) (World.shaped_of_ZipB (by kernel_rfl) (by kernel_rfl)) (by kernel_rfl) (by kernel_rfl) (by kernel_rfl) (by rw [MakeChecks.laidMetH_plain _ _ _ (by kernel_rfl)]; exact laidMet_laidAll _ (by kernel_rfl) (by kernel_rfl))) ?_
  intro W base args ds gs before hval0 hW _ _ hL _
  have hval : ∀ (j : Nat) t v, Tryz.f20.params[j]? = some t → args[j]? = some v → Value.okWide Tryz.prog W .any base t v := hval0
  have hW' := hW
  obtain ⟨p, q, hA0, hV, rfl, hfz, hnd⟩ := hW
  have hA : DataW.TrodAll enc Tryz.prog W 0 (fun _ => true) true Tryz.f20.params.toList args.toList ds p := hA0
  rw [Tryz.params20] at hA hval
  obtain ⟨v0, vs0, d0, ds0, p0, q0, hargs, rfl, rfl, h0, r0⟩ := trodAll_cons hA
  obtain ⟨rfl, rfl, rfl⟩ := trodAll_nil r0
  obtain rfl : args = #[v0] := by cases args; simp_all
  obtain ⟨rfl, rfl⟩ := trodVars_none hV
  have k0 := h0
  have lt0 : ∀ x ∈ p0, x.block < W.heap.size := by obtain ⟨m, hm⟩ := k0; exact DataW.trod_lt m _ _ _ hm
  have u0 := hval 0 25 v0 rfl rfl
  obtain ⟨s0, rfl, hd0, wp0, wl0, hx0⟩ := arg_season u0 h0
  have htab := tab_of_laid (show laidMet Tryz.prog Rows.sharePrintsRow.laid W from hL)
  clear hA0 hval0
  simp only [List.append_nil] at hW'
  refine (sharePrints_walk s0 W hd0 (itoa_tab htab)).mono fun e W' ⟨he, bel⟩ => ?_
  subst he
  exact ⟨_, rfl, _, _, _, [], _, [], hW', trodAll_mk1 (shut_bool Tryz.underlying4 _), (trodAll_cons_mk (Below.trod laidOut (by kernel_rfl) (of_decide_eq_true (by kernel_rfl)) k0 bel lt0) trodAll_mk0), rfl, bel.frame _, fun h => by cases h⟩

theorem both_true {a b : Bool} (h : a = true) (g : b = true) : (a && b) = true := by rw [h, g]; rfl
set_option maxHeartbeats 16000000 in
theorem closed : joinedFacts Tryz.prog 20 Tryz.f20 Rows.sharePrintsSpec Rows.sharePrintsRow = true := by
  unfold joinedFacts
  repeat' (with_reducible refine both_true ?_ ?_)
  all_goals first | (with_reducible exact f_laid) | (with_reducible exact f_rowed) | (with_reducible exact f_heard) | (with_reducible exact f_enter) | (with_reducible rw [f_keys]; as_aux_lemma => kernel_rfl) | (with_reducible rw [f_lift]; as_aux_lemma => kernel_rfl) | (with_reducible rw [f_make]; as_aux_lemma => kernel_rfl) | (as_aux_lemma => kernel_rfl)

theorem row_holds : Rows.SharePrintsSaid :=
  OpenClaim.holds_of_wide 20 Tryz.f20 rfl rfl rfl rfl rfl rfl rfl ⟨rfl, rfl, rfl, rfl, rfl⟩ rfl rfl rfl rfl rfl (by as_aux_lemma => kernel_rfl) Tryz.func20 closed
    (of_decide_eq_true (by kernel_rfl)) (by unfold Func.isWrapper; first | (rw [if_pos (by decide +kernel)]; kernel_rfl) | (rw [if_neg (by decide +kernel)]; exact ⟨rfl, rfl⟩))
    (fun os started H enc _ => lifted os started H enc)

set_option maxHeartbeats 8000000 in
theorem sharePrints_holds : Rows.SharePrintsCardSaid :=
  Claim7.holds_tied_plain_at .later [] [.data, .data, .data, .data, .pinned] true (true, "7e62b5f23aa16cc2579dbf745918b39c2216085a6a4405f0c28cfd6d2389e0e4") true
    row_holds (fun _ h => by cases h) (by as_aux_lemma => kernel_rfl) (fun _ h => by cases h) sharePrints_row_tie rfl ⟨rfl, rfl⟩ (by as_aux_lemma => kernel_rfl) rfl
    (fun f fn hf hfn => by
      obtain rfl : f = 20 := Option.some.inj ((show Tryz.prog.funcNamed "bathyal/bathyallaw05.SharePrints" = some 20 by kernel_rfl).symm.trans hf) |>.symm
      obtain rfl : fn = Tryz.f20 := (Option.some.inj (Tryz.func20.symm.trans hfn)).symm
      exact ⟨by kernel_rfl, fun j t ht => by
        rw [Tryz.params20] at ht
        have hm : t ∈ [25] := by simpa using Array.mem_of_getElem? ht
        have hall : ([25].all fun u => !Tryz.prog.wantsStandIn u) = true := by kernel_rfl
        exact (show Tryz.prog.wantsStandIn t = false by simpa using List.all_eq_true.1 hall t hm)⟩)
    (by as_aux_lemma => kernel_rfl)
#print axioms sharePrints_holds
end Go.Proofs.YtplhaohcmhepbaaGreatDoor.sharePrints
