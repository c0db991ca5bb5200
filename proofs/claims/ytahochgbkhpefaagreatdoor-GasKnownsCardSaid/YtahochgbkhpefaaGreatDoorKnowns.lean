/-
  The statement GasKnowns holds for every input: the law returns true and what came in reads as before.
-/
import Derived.Test.YtahochgbkhpefaaGreatDoorP14
import Derived.Test.YtahochgbkhpefaaGreatDoorP11
import Derived.Test.YtahochgbkhpefaaGreatDoorRows
import Derived.Test.YtahochgbkhpefaaGreatDoorTie
import Derived.Test.YtahochgbkhpefaaGreatDoorCards
import Derived.Test.YtahochgbkhpefaaGreatDoorChecked
import Derived.ProofKit
import Derived.OpenShut
import Derived.LaidMore
import Derived.Stop.Joined
import Derived.SevenTiedAt
import Derived.Carry
namespace Go.Proofs
open Go.RowKit Go.Shelf Gas
attribute [local go_sem ↓] Go.wp_at_zero Go.wp_at_succ

theorem Lists.form {w : World} {base : Nat} {v : Value} {m : Nat} {xss : List (List Pr)} (h : Lists w base v m xss) : ∃ A c, v = .slice A xss.length c := by
  obtain ⟨cells, h1, _⟩ := h.ex
  rcases h1.2 with ⟨rfl, h0⟩ | ⟨g, cap, cur, rfl, _⟩
  · exact ⟨none, 0, by rw [h0]⟩
  · exact ⟨_, _, rfl⟩
theorem Lists.at {w : World} {base : Nat} {A : Option Addr} {n c : Nat} {m : Nat} {xss : List (List Pr)} (h : Lists w base (.slice A n c) m xss) {k : Nat} {xs : List Pr} (hx : xss[k]? = some xs) (hn : xss.length = n) : ∃ g D, A = some ⟨g, 0, none⟩ ∧ w.cell? ⟨g, k, none⟩ = some (.slice (some ⟨D, 0, none⟩) m m) ∧ SlOf prC 2 w (some ⟨D, 0, none⟩) m xs := by
  obtain ⟨cells, h1, h2⟩ := h.ex
  have hk := (List.getElem?_eq_some_iff.1 hx).1
  obtain ⟨D, e1, e2⟩ := h2 k xs hx
  rcases h1.2 with ⟨_, h0⟩ | ⟨g, cap, cur, e, _⟩
  · omega
  · cases e
    exact ⟨g, D, rfl, (h1.cellAt k (by omega)).trans e1, e2.sl prC_len⟩
/-- What a law keeps in its boxes: a table and a man. -/
structure By (w : World) (t : Tm) (W : World) : Prop where
  below : Below w.heap.size w W
  tab : Has W w.heap.size 50 #[.slice t.pA t.pn t.pc, .slice t.sA t.sn t.sc]
  man : Has W (w.heap.size + 1) 53 #[.slice t.rA t.rn t.rc]
theorem By.keep {w W W' : World} {t : Tm} (h : By w t W) (hb : Below W.heap.size W W') : By w t W' := ⟨nextB h.below hb, h.tab.after hb, h.man.after hb⟩
theorem By.start (w : World) (t : Tm) : By w t ((w.alloc (.cells #[.slice t.pA t.pn t.pc, .slice t.sA t.sn t.sc] 50)).alloc (.cells #[.slice t.rA t.rn t.rc] 53)) :=
  ⟨newB (newB (Below.refl _ _) _) _, (Has.new w 50 _).alloc _, Has.new' _ 53 _ (by simp)⟩

set_option maxHeartbeats 2000000 in
set_option maxRecDepth 50000 in
theorem gasKnowns_walk (t : Tm) (A : Option Addr) (n c : Nat) (dive : List St) (hA : A = none → c = 0) (w : World) (hi : t.In w) (hd : SlOf St.cs 4 w A n dive) :
    Calls Tryz.prog 8 #[t.tab, t.man, .slice A n c] w fun e w' => e = .returned (.bool true) ∧ Below w.heap.size w w' := by
  have HSh := Lib.hid fun (W : World) => short_c t A n c W
  have E0 := Lib.hid (By.start w t)
  cases hs : shortB t n
  · rw [hs] at HSh
    clear hs hi hd
    obtain ⟨pA, sA, rA, pn, pc, sn, sc, rn, rc, ps, ss, rs⟩ := t
    simp only [Tm.tab, Tm.man] at *
    go_enter Tryz.func8, Tryz.ntmps8
    go_wp2_with (first
      | (go_at_call 26; refine (HSh.out _).mono ?_; rintro e w1 ⟨rfl, hb⟩; have EE := Lib.hid (E0.out.keep hb); clear hb)
      | (go_at_call 15; refine (knownLaw_c _).mono ?_; rintro e w2 ⟨rfl, hb⟩; have HB := Lib.hid (nextB EE.out.below hb); clear hb))
    exact bodyPost_ret (results_tmp rfl _ _ _) rfl ⟨rfl, HB.out⟩
  · rw [hs] at HSh
    obtain ⟨hsm, hn7⟩ := short_small hs
    have HFi := Lib.hid fun (W : World) (hb : Below w.heap.size w W) => fine_c t hsm A n c dive (by omega) W (hi.keep hb) (hd.keep hb)
    have HKn := Lib.hid fun (W : World) (hb : Below w.heap.size w W) => Known_c t hsm A n c dive hA (by omega) W (hi.keep hb) (hd.keep hb)
    cases hdb : definedB t.ps t.ss t.rs dive 0
    · rw [hdb] at HFi HKn
      rw [show knownF t dive = [] by simp [knownF, hdb]] at HKn
      have HK2 := Lib.hid fun (W : World) (hb : Below w.heap.size w W) => (HKn.out W hb).mono fun e w' (⟨v, h1, h2, h3⟩ : IsKnown W t.pn [] (errI false) e w') => (show ∃ A' c', e = Ending.returned (.tuple #[.slice A' 0 c', .int .i64 2]) ∧ Below W.heap.size W w' from by
        obtain ⟨A', c', rfl⟩ := h2.form
        exact ⟨A', c', h1, h3⟩)
      clear hs hi hd hsm hdb HKn
      obtain ⟨pA, sA, rA, pn, pc, sn, sc, rn, rc, ps, ss, rs⟩ := t
      simp only [Tm.tab, Tm.man] at *
      go_enter Tryz.func8, Tryz.ntmps8
      go_wp2_with (first
        | (go_at_call 26; refine (HSh.out _).mono ?_; rintro e w1 ⟨rfl, hb⟩; have EE := Lib.hid (E0.out.keep hb); have ct := EE.out.tab.cell; have cm := EE.out.man.cell; clear hb)
        | (go_at_call 37; refine (HK2.out _ EE.out.below).mono ?_; rintro e w4 ⟨A', c', rfl, hb⟩; replace EE := Lib.hid (EE.out.keep hb); replace ct := EE.out.tab.cell; replace cm := EE.out.man.cell; clear hb)
        | (go_at_call 32; refine (HFi.out _ EE.out.below).mono ?_; rintro e w2 ⟨rfl, hb⟩; replace EE := Lib.hid (EE.out.keep hb); clear hb)
        | (go_at_call 15; refine (knownLaw_c _).mono ?_; rintro e w2 ⟨rfl, hb⟩; have HB := Lib.hid (nextB EE.out.below hb); clear hb))
      exact bodyPost_ret (results_tmp rfl _ _ _) rfl ⟨rfl, HB.out⟩
    · rw [hdb] at HFi HKn
      obtain ⟨hok, hds, hlen⟩ := defined_ok hsm hi hdb
      have htp : t.pn ≤ 3 := by
        have h1 := hi.ps.1
        simp only [definedB, tableB, inB, Bool.and_eq_true, decide_eq_true_eq] at hdb
        omega
      obtain ⟨xss, hxss⟩ : ∃ xss, refL t.rs t.pn h0 dive = xss := ⟨_, rfl⟩
      obtain ⟨L, hL⟩ : ∃ L, xss.length = L := ⟨_, rfl⟩
      rw [show knownF t dive = xss by rw [← hxss, ← refL_known t.ps t.rs t.pn dive h0 true]; simp [knownF, hdb]] at HKn
      have HLn := Lib.hid hL
      have HLb := Lib.hid (show L ≤ 1000000 by
        have e : ∀ (l : List St) (h : Nat → Int → Pr), (refL t.rs t.pn h l).length = l.length + 1 := by
          intro l
          induction l with
          | nil => intro h; rfl
          | cons s l ih => intro h; show (refL t.rs t.pn _ l).length + 1 = _; rw [ih]; rfl
        have h1 := hd.1
        rw [← hL, ← hxss, e]; omega)
      have HK2 := Lib.hid fun (W : World) (hb : Below w.heap.size w W) => (HKn.out W hb).mono fun e w' (⟨v, h1, h2, h3⟩ : IsKnown W t.pn xss (errI true) e w') => (show ∃ A' c', e = Ending.returned (.tuple #[.slice A' L c', .int .i64 0]) ∧ Lists w' W.heap.size (.slice A' L c') t.pn xss ∧ Below W.heap.size W w' from by
        obtain ⟨A', c', rfl⟩ := h2.form
        rw [hL] at h1 h2
        exact ⟨A', c', h1, h2, h3⟩)
      have HRf := Lib.hid fun (W : World) (hb : Below w.heap.size w W) => (refKnown_c t hok htp A n c dive (by omega) hds W (hi.keep hb) (hd.keep hb)).mono fun e w' (⟨v, h1, h2, h3⟩ : IsRef W t.pn (refL t.rs t.pn h0 dive) e w') => (show ∃ A' c', e = Ending.returned (.slice A' L c') ∧ Lists w' W.heap.size (.slice A' L c') t.pn xss ∧ Below W.heap.size W w' from by
        rw [hxss] at h2
        obtain ⟨A', c', rfl⟩ := h2.form
        rw [hL] at h1 h2
        exact ⟨A', c', h1, h2, h3⟩)
      clear hs hi hd hsm hdb HKn hxss hok hds hlen hL
      obtain ⟨pA, sA, rA, pn, pc, sn, sc, rn, rc, ps, ss, rs⟩ := t
      simp only [Tm.tab, Tm.man] at *
      go_enter Tryz.func8, Tryz.ntmps8
      go_wp2_with (first
        | (go_at_call 26; refine (HSh.out _).mono ?_; rintro e w1 ⟨rfl, hb⟩; have EE := Lib.hid (E0.out.keep hb); have ct := EE.out.tab.cell; have cm := EE.out.man.cell; clear hb)
        | (go_at_call 37; refine (HK2.out _ EE.out.below).mono ?_; rintro e w4 ⟨A4, c4, rfl, hl4, hb⟩; replace EE := Lib.hid (EE.out.keep hb); have HL4 := Lib.hid hl4; replace ct := EE.out.tab.cell; replace cm := EE.out.man.cell; clear hb hl4)
        | (go_at_call 32; refine (HFi.out _ EE.out.below).mono ?_; rintro e w5 ⟨rfl, hb⟩; replace EE := Lib.hid (EE.out.keep hb); replace HL4 := Lib.hid (HL4.out.keep hb); replace ct := EE.out.tab.cell; replace cm := EE.out.man.cell; clear hb)
        | (go_at_call 38; refine (HRf.out _ EE.out.below).mono ?_; rintro e w6 ⟨A6, c6, rfl, hl6, hb⟩; replace EE := Lib.hid (EE.out.keep hb); have HL6 := Lib.hid hl6; have HL7 := Lib.hid (HL4.out.keep hb); clear hb hl6 ct cm))
      go_loopw [10] (fun v wr => ∃ k : Nat, k ≤ L ∧ v = .int .i64 k ∧ Below w6.heap.size w6 wr) (fun v _ => L - (intOf v).toNat)
      case atStart => exact ⟨0, by omega, rfl, Below.refl _ _⟩
      case round =>
        obtain ⟨k, hk, rfl, hB⟩ := hrel
        have hlb := HLb.out
        have HB := Lib.hid hB
        clear hB
        by_cases hkn : k < L
        · obtain ⟨xs, hx⟩ : ∃ xs, xss[k]? = some xs := ⟨_, List.getElem?_eq_getElem (by rw [HLn.out]; exact hkn)⟩
          obtain ⟨g1, D1, rfl, hc1, hs1⟩ := (HL7.out.keep HB.out).at hx HLn.out
          obtain ⟨g2, D2, rfl, hc2, hs2⟩ := (HL6.out.keep HB.out).at hx HLn.out
          have C1 := Lib.hid fun (W : World) (hb : Below wr.heap.size wr W) => ccell hb hc1
          have C2 := Lib.hid fun (W : World) (hb : Below wr.heap.size wr W) => ccell hb hc2
          have HSa := Lib.hid fun (W : World) (hb : Below wr.heap.size wr W) => sameSpans_c (some ⟨D1, 0, none⟩) (some ⟨D2, 0, none⟩) pn pn pn xs (by omega) W (hs1.keep hb) (hs2.keep hb)
          clear hx hc1 hc2 hs1 hs2
          go_wp2
          refine wp_free 10 (by kernel_rfl) (by kernel_rfl) (by kernel_rfl) (by decide) ?_
          intro K hK
          iterate 8 (apply Obl.val (by decide) (by kernel_rfl); (intro w' hb; have := C1.out w' hb; have := C2.out w' hb; go_simp; rfl))
          (apply Obl.call (f := 39) (by decide) (by kernel_rfl); (intro w' hb; go_simp; exact rfl); (intro w' hb; exact HSa.out w' hb))
          (apply Obl.val (by decide) (by kernel_rfl); (intro w' hb; go_simp; rfl))
          apply Obl.nil
          apply hK
          intro w7 hb
          simp only [Act.put, List.setIfInBounds_toArray, List.set_cons_zero, List.set_cons_succ, List.drop_succ_cons, List.drop_zero]
          clear hK K
          have HB7 := Lib.hid (nextB HB.out hb)
          clear hb
          go_wp2
          go_roundw
          case rel => exact ⟨k + 1, by omega, by go_num, HB7.out⟩
          case measure => simp [intOf]; omega
        · have hke : k = L := by omega
          subst hke
          have HB8 := Lib.hid (nextB EE.out.below HB.out)
          go_wp2_with (go_at_call 15; refine (knownLaw_c _).mono ?_; rintro e w9 ⟨rfl, hb⟩; have HB9 := Lib.hid (nextB HB8.out hb); clear hb)
          exact bodyPost_ret (results_tmp rfl _ _ _) rfl ⟨rfl, HB9.out⟩
end Go.Proofs
namespace Go.Proofs.YtahochgbkhpefaaGreatDoor.gasKnowns
open Go.ChangeShapes Go.WideShapes Go.ChangeAt Go.RowKit Go.Proofs

theorem own : ownKnob Tryz.prog.godebug = none := by kernel_rfl
theorem laidOut : laidOutB Tryz.prog = true := by kernel_rfl
theorem door_met (os : Os) (args : Array Value) : laidMetH Tryz.prog Rows.gasKnownsRow.laid ((World.doorLaid Tryz.prog 400 os).forCall (fun _ _ => 0) ⟨#[], args, []⟩).memory :=
  laidMetH_of_parts3 (fuel := 8) (laidMet_of_run' 8 (by kernel_rfl) (by kernel_rfl)) (by kernel_rfl) (by kernel_rfl)

set_option maxRecDepth 100000 in
theorem lifted (os : Os) (started : os.Started) (H : Type) (enc : TypeId × Value → H) :
    ReturnsInHanded {} Tryz.checked os 8 .any (fun w args => (Rows.gasKnownsSpec.pre enc Tryz.prog Tryz.f8 [] false w args ∧ laidMetH Tryz.prog Rows.gasKnownsRow.laid w) ∧ sizedMet enc Tryz.prog Tryz.f8 (OpenSpec.ofChange Rows.gasKnownsSpec) false w args)
      (Rows.gasKnownsSpec.post enc Tryz.prog Tryz.f8 false true false false) := by
  refine returnsInHanded_of_change_and (C := Tryz.checked) (X := fun w _ => laidMetH Tryz.prog Rows.gasKnownsRow.laid w) (fun _ _ _ hh h => h.of_heap hh) own started (by kernel_rfl) Tryz.func8
    (ChangeSpec.witness_shaped (enc := enc) (C := Tryz.checked) (os := os) (X := fun w _ => laidMetH Tryz.prog Rows.gasKnownsRow.laid w) false (World.doorLaid Tryz.prog 400 os) #[.agg #[.slice none 0 0, .slice none 0 0], .agg #[.slice none 0 0], .slice none 0 0] 8 rfl (World.shaped_of_RefB (by kernel_rfl) (by kernel_rfl)) (by kernel_rfl) (by kernel_rfl) (by kernel_rfl) (door_met os _)) ?_
  intro W base args ds gs before hval0 hW _ _ hL _
  have hval : ∀ (j : Nat) t v, Tryz.f8.params[j]? = some t → args[j]? = some v → Value.okWide Tryz.prog W .any base t v := hval0
  have hW' := hW
  obtain ⟨p, q, hA0, hV, rfl, hfz, hnd⟩ := hW
  have hA : DataW.TrodAll enc Tryz.prog W 0 (fun _ => true) true Tryz.f8.params.toList args.toList ds p := hA0
  rw [Tryz.params8] at hA hval
  obtain ⟨v0, vs0, d0, ds0, p0, q0, hargs, rfl, rfl, h0, r0⟩ := trodAll_cons hA
  obtain ⟨v1, vs1, d1, ds1, p1, q1, rfl, rfl, rfl, h1, r1⟩ := trodAll_cons r0
  obtain ⟨v2, vs2, d2, ds2, p2, q2, rfl, rfl, rfl, h2, r2⟩ := trodAll_cons r1
  obtain ⟨rfl, rfl, rfl⟩ := trodAll_nil r2
  obtain rfl : args = #[v0, v1, v2] := by cases args; simp_all
  obtain ⟨rfl, rfl⟩ := trodVars_none hV
  have k0 := h0
  have lt0 : ∀ x ∈ p0, x.block < W.heap.size := by obtain ⟨m, hm⟩ := k0; exact DataW.trod_lt m _ _ _ hm
  have u0 := hval 0 50 v0 rfl rfl
  obtain ⟨pA, pn, pc, ps, sA, sn, sc, ss, rfl, hP, hS⟩ := arg_table u0 h0
  have k1 := h1
  have lt1 : ∀ x ∈ p1, x.block < W.heap.size := by obtain ⟨m, hm⟩ := k1; exact DataW.trod_lt m _ _ _ hm
  have u1 := hval 1 53 v1 rfl rfl
  obtain ⟨rA, rn, rc, rs, rfl, hR⟩ := arg_man u1 h1
  have k2 := h2
  have lt2 : ∀ x ∈ p2, x.block < W.heap.size := by obtain ⟨m, hm⟩ := k2; exact DataW.trod_lt m _ _ _ hm
  have u2 := hval 2 54 v2 rfl rfl
  obtain ⟨A2, n2, c2, l2, rfl, hd2, hc2, hm2, hA2⟩ := arg_dive u2 h2
  clear hA0 hval0
  simp only [List.append_nil] at hW'
  refine (gasKnowns_walk ⟨pA, sA, rA, pn, pc, sn, sc, rn, rc, ps, ss, rs⟩ A2 n2 c2 l2 hA2 W ⟨hP, hS, hR⟩ hd2).mono fun e W' ⟨he, bel⟩ => ?_
  subst he
  exact ⟨_, rfl, _, _, _, [], _, [], hW', trodAll_mk1 (shut_bool Tryz.underlying4 _), (trodAll_cons_mk (Below.trod laidOut (by kernel_rfl) (of_decide_eq_true (by kernel_rfl)) k0 bel lt0) (trodAll_cons_mk (Below.trod laidOut (by kernel_rfl) (of_decide_eq_true (by kernel_rfl)) k1 bel lt1) (trodAll_cons_mk (Below.trod laidOut (by kernel_rfl) (of_decide_eq_true (by kernel_rfl)) k2 bel lt2) trodAll_mk0))), rfl, bel.frame _, fun h => by cases h⟩

theorem row_holds : Rows.GasKnownsSaid :=
  OpenClaim.holds_of_wide 8 Tryz.f8 rfl rfl rfl rfl rfl rfl rfl ⟨rfl, rfl, rfl, rfl, rfl⟩ rfl rfl rfl rfl rfl (by kernel_rfl) Tryz.func8 (by kernel_rfl)
    (of_decide_eq_true (by kernel_rfl)) (by unfold Func.isWrapper; first | (rw [if_pos (by decide +kernel)]; kernel_rfl) | (rw [if_neg (by decide +kernel)]; exact ⟨rfl, rfl⟩))
    (fun os started H enc _ => lifted os started H enc)

theorem gasKnowns_holds : Rows.GasKnownsCardSaid :=
  Claim7.holds_tied_plain_at .later [] [.data, .data, .data] true (true, "7950fa0371113510b48b1005210e74e0fffa460a27dcdf5d658d223fe2172657") true
    row_holds (fun _ h => by cases h) (by kernel_rfl) (fun _ h => by cases h) gasKnowns_row_tie rfl ⟨rfl, rfl⟩ (by kernel_rfl) rfl
    (fun f fn hf hfn => by
      obtain rfl : f = 8 := Option.some.inj ((show Tryz.prog.funcNamed "bathyal/bathyallaw02.GasKnowns" = some 8 by kernel_rfl).symm.trans hf) |>.symm
      obtain rfl : fn = Tryz.f8 := (Option.some.inj (Tryz.func8.symm.trans hfn)).symm
      exact ⟨by kernel_rfl, fun j t ht => by
        rw [Tryz.params8] at ht
        have hm : t ∈ [50, 53, 54] := by simpa using Array.mem_of_getElem? ht
        have hall : ([50, 53, 54].all fun u => !Tryz.prog.wantsStandIn u) = true := by kernel_rfl
        exact (show Tryz.prog.wantsStandIn t = false by simpa using List.all_eq_true.1 hall t hm)⟩)
    (by kernel_rfl)
#print axioms gasKnowns_holds
end Go.Proofs.YtahochgbkhpefaaGreatDoor.gasKnowns
