/-
  The statement GasTrue holds for every input: the law returns true and what came in reads as before.
-/
import Derived.Test.YtahochgbkhpefaaGreatDoorP16
import Derived.Test.YtahochgbkhpefaaGreatDoorP12
import Derived.Test.YtahochgbkhpefaaGreatDoorP11
import Derived.Test.YtahochgbkhpefaaGreatDoorRows
import Derived.Test.YtahochgbkhpefaaGreatDoorTie
import Derived.Test.YtahochgbkhpefaaGreatDoorCards
import Derived.Test.YtahochgbkhpefaaGreatDoorChecked
import Derived.ProofKit
import Derived.OpenShut
import Derived.LaidMore
import Derived.Stop.Joined
import Derived.SevenTiedAt
import Derived.Carry
namespace Go.Proofs
open Go.RowKit Go.Shelf Gas
attribute [local go_sem ↓] Go.wp_at_zero Go.wp_at_succ

theorem known_at {ps rs : List Pr} {dive : List St} {xs ds ms : List Int} {pn : Nat} (hf : FitP rs dive xs ds ms) (hr : rs.all rateB = true) (hs : ∀ s ∈ dive, SOk s) (hl : rs.length = pn) {i : Nat} (hi : i ≤ dive.length) :
    ∃ sp, (knownL ps rs pn (h0, true) (dive ++ [st0]))[i]? = some sp ∧ ∀ k, k < pn → ∃ lo hi, sp[k]? = some (lo, hi) ∧ lo ≤ heldT xs ds ms i k ∧ heldT xs ds ms i k ≤ hi := by
  refine ⟨_, knownL_at ps rs pn (dive ++ [st0]) (h0, true) i (by simp; omega), fun k hk => ?_⟩
  rw [atF_snoc ps rs dive st0 (h0, true) i hi]
  refine ⟨leastF rs (atF ps rs dive (h0, true) i).1 k, greatF rs (atF ps rs dive (h0, true) i).1 k, by simp [spansOf, hk], ?_⟩
  refine held_spans (kp := true) hf (fun k hk => ?_) (fun i hi => ?_) hi (by omega)
  · have := rate_wide hr hk; omega
  · have hx : dive.getD i st0 = dive[i] := by simp [List.getD_eq_getElem?_getD, hi]
    have := (hs _ (List.getElem_mem hi)).m
    rw [hx]; omega
theorem sure_kept {t : Tm} (ht : t.Ok) {dive : List St} {xs ds ms : List Int} {pn : Nat} (hf : FitP t.rs dive xs ds ms) (hs : ∀ s ∈ dive, SOk s) (hpl : t.ps.length = t.rs.length) (hl : t.rs.length = pn) (hk : keptF t (h0, true) dive = true) : keptI t.ps xs ds ms pn dive.length = 1 := by
  have : keptB t.ps xs ds ms pn dive.length = true := by
    simp only [keptB, List.all_eq_true, List.mem_range]
    intro i hi k hk2
    refine decide_eq_true (held_kept hf (fun k hk => ?_) (fun i hi => ?_) hpl (fun k hk => (ht.part hk).2.2.1) hk (by omega) (by omega))
    · have := rate_wide ht.rates hk; omega
    · have hx : dive.getD i st0 = dive[i] := by simp [List.getD_eq_getElem?_getD, hi]
      have := (hs _ (List.getElem_mem hi)).m
      rw [hx]; omega
  simp [keptI, this]

set_option maxHeartbeats 4000000 in
set_option maxRecDepth 50000 in
theorem gasTrue_walk (t : Tm) (A : Option Addr) (n c : Nat) (dive : List St) (hA : A = none → c = 0) (x : Tr) (w : World) (hi : t.In w) (hd : SlOf St.cs 4 w A n dive) (hx : x.In w) :
    Calls Tryz.prog 9 #[t.tab, t.man, .slice A n c, x.val] w fun e w' => e = .returned (.bool true) ∧ Below w.heap.size w w' := by
  have HSh := Lib.hid fun (W : World) => short_c t A n c W
  have HBr := Lib.hid fun (W : World) => brief_c x W
  have E0 := Lib.hid (Bt.start w t x)
  cases hs : shortB t n
  · rw [hs] at HSh
    clear hs hi hd hx
    obtain ⟨pA, sA, rA, pn, pc, sn, sc, rn, rc, ps, ss, rs⟩ := t
    obtain ⟨xA, dA, mA, xn, xc, dn, dc, mn, mc, xs, ds, ms⟩ := x
    simp only [Tm.tab, Tm.man, Tr.val] at *
    go_enter Tryz.func9, Tryz.ntmps9
    go_wp2_with (first
      | (go_at_call 26; refine (HSh.out _).mono ?_; rintro e w26 ⟨rfl, hb⟩; have EE := Lib.hid (E0.out.keep hb); have ct := EE.out.tab.cell; have cm := EE.out.man.cell; have cx := EE.out.tr.cell; clear hb)
      | (go_at_call 15; refine (knownLaw_c _).mono ?_; rintro e w15 ⟨rfl, hb⟩; have HB := Lib.hid (nextB EE.out.below hb); clear hb))
    exact bodyPost_ret (results_tmp rfl _ _ _) rfl ⟨rfl, HB.out⟩
  · rw [hs] at HSh
    obtain ⟨hsm, hn7⟩ := short_small hs
    cases hbr : briefB x
    · rw [hbr] at HBr
      clear hs hi hd hx hsm hbr
      obtain ⟨pA, sA, rA, pn, pc, sn, sc, rn, rc, ps, ss, rs⟩ := t
      obtain ⟨xA, dA, mA, xn, xc, dn, dc, mn, mc, xs, ds, ms⟩ := x
      simp only [Tm.tab, Tm.man, Tr.val] at *
      go_enter Tryz.func9, Tryz.ntmps9
      go_wp2_with (first
        | (go_at_call 26; refine (HSh.out _).mono ?_; rintro e w26 ⟨rfl, hb⟩; have EE := Lib.hid (E0.out.keep hb); have ct := EE.out.tab.cell; have cm := EE.out.man.cell; have cx := EE.out.tr.cell; clear hb)
        | (go_at_call 27; refine (HBr.out _).mono ?_; rintro e w27 ⟨rfl, hb⟩; replace EE := Lib.hid (EE.out.keep hb); replace ct := EE.out.tab.cell; replace cm := EE.out.man.cell; replace cx := EE.out.tr.cell; clear hb)
        | (go_at_call 15; refine (knownLaw_c _).mono ?_; rintro e w15 ⟨rfl, hb⟩; have HB := Lib.hid (nextB EE.out.below hb); clear hb))
      exact bodyPost_ret (results_tmp rfl _ _ _) rfl ⟨rfl, HB.out⟩
    · rw [hbr] at HBr
      have HFi := Lib.hid fun (W : World) (hb : Below w.heap.size w W) => fine_c t hsm A n c dive (by omega) W (hi.keep hb) (hd.keep hb)
      have HTr := Lib.hid fun (W : World) => truth_c t A n c x W
      cases hdb : definedB t.ps t.ss t.rs dive 0
      · rw [hdb] at HFi
        clear hs hi hd hx hsm hbr hdb
        obtain ⟨pA, sA, rA, pn, pc, sn, sc, rn, rc, ps, ss, rs⟩ := t
        obtain ⟨xA, dA, mA, xn, xc, dn, dc, mn, mc, xs, ds, ms⟩ := x
        simp only [Tm.tab, Tm.man, Tr.val] at *
        go_enter Tryz.func9, Tryz.ntmps9
        go_wp2_with (first
          | (go_at_call 26; refine (HSh.out _).mono ?_; rintro e w26 ⟨rfl, hb⟩; have EE := Lib.hid (E0.out.keep hb); have ct := EE.out.tab.cell; have cm := EE.out.man.cell; have cx := EE.out.tr.cell; clear hb)
          | (go_at_call 27; refine (HBr.out _).mono ?_; rintro e w27 ⟨rfl, hb⟩; replace EE := Lib.hid (EE.out.keep hb); replace ct := EE.out.tab.cell; replace cm := EE.out.man.cell; replace cx := EE.out.tr.cell; clear hb)
          | (go_at_call 32; refine (HFi.out _ EE.out.below).mono ?_; rintro e w32 ⟨rfl, hb⟩; replace EE := Lib.hid (EE.out.keep hb); replace ct := EE.out.tab.cell; replace cm := EE.out.man.cell; replace cx := EE.out.tr.cell; clear hb)
          | (go_at_call 15; refine (knownLaw_c _).mono ?_; rintro e w15 ⟨rfl, hb⟩; have HB := Lib.hid (nextB EE.out.below hb); clear hb))
        exact bodyPost_ret (results_tmp rfl _ _ _) rfl ⟨rfl, HB.out⟩
      · rw [hdb] at HFi
        cases hsh : shapedB t n x
        · rw [hsh] at HTr
          clear hs hi hd hx hsm hbr hdb hsh
          obtain ⟨pA, sA, rA, pn, pc, sn, sc, rn, rc, ps, ss, rs⟩ := t
          obtain ⟨xA, dA, mA, xn, xc, dn, dc, mn, mc, xs, ds, ms⟩ := x
          simp only [Tm.tab, Tm.man, Tr.val] at *
          go_enter Tryz.func9, Tryz.ntmps9
          go_wp2_with (first
            | (go_at_call 26; refine (HSh.out _).mono ?_; rintro e w26 ⟨rfl, hb⟩; have EE := Lib.hid (E0.out.keep hb); have ct := EE.out.tab.cell; have cm := EE.out.man.cell; have cx := EE.out.tr.cell; clear hb)
            | (go_at_call 27; refine (HBr.out _).mono ?_; rintro e w27 ⟨rfl, hb⟩; replace EE := Lib.hid (EE.out.keep hb); replace ct := EE.out.tab.cell; replace cm := EE.out.man.cell; replace cx := EE.out.tr.cell; clear hb)
            | (go_at_call 32; refine (HFi.out _ EE.out.below).mono ?_; rintro e w32 ⟨rfl, hb⟩; replace EE := Lib.hid (EE.out.keep hb); replace ct := EE.out.tab.cell; replace cm := EE.out.man.cell; replace cx := EE.out.tr.cell; clear hb)
            | (go_at_call 33; refine (HTr.out _).mono ?_; rintro e w33 ⟨rfl, hb⟩; replace EE := Lib.hid (EE.out.keep hb); replace ct := EE.out.tab.cell; replace cm := EE.out.man.cell; replace cx := EE.out.tr.cell; clear hb)
            | (go_at_call 15; refine (knownLaw_c _).mono ?_; rintro e w15 ⟨rfl, hb⟩; have HB := Lib.hid (nextB EE.out.below hb); clear hb))
          exact bodyPost_ret (results_tmp rfl _ _ _) rfl ⟨rfl, HB.out⟩
        · rw [hsh] at HTr
          obtain ⟨hok, hds, hlen⟩ := defined_ok hsm hi hdb
          obtain ⟨e1, e2, e3⟩ := shaped_len hsh
          have hrl : t.rs.length = t.pn := by rw [hi.rs.1]; exact hok.np
          have hdl := hd.1
          have hn4 : n ≤ 4 := by omega
          have hpn : t.pn ≤ 3 := by
            have h1 := hi.ps.1
            simp only [definedB, tableB, inB, Bool.and_eq_true, decide_eq_true_eq] at hdb
            omega
          have HFt := Lib.hid fun (W : World) (hb : Below w.heap.size w W) => Fits_c t hsm A n c dive x (by omega) W (hi.keep hb) (hd.keep hb) (hx.keep hb)
          have HSu := Lib.hid fun (W : World) (hb : Below w.heap.size w W) => Surely_c t hsm A n c dive (by omega) W (hi.keep hb) (hd.keep hb)
          have HKn0 := Lib.hid fun (W : World) (hb : Below w.heap.size w W) => Known_c t hsm A n c dive hA (by omega) W (hi.keep hb) (hd.keep hb)
          rw [show fitsF t n dive x = (fitsB t.rs dive x, 0) by simp [fitsF, hsh, hdb]] at HFt
          rw [show sureF t dive = (keptF t (h0, true) dive, 0) by simp [sureF, hdb]] at HSu
          rw [hdb, show knownF t dive = knownL t.ps t.rs t.pn (h0, true) (dive ++ [st0]) by simp [knownF, hdb]] at HKn0
          have HKl := Lib.hid (show (knownL t.ps t.rs t.pn (h0, true) (dive ++ [st0])).length = n + 1 by rw [knownL_len]; simp [hdl])
          have HKn := Lib.hid fun (W : World) (hb : Below w.heap.size w W) => (HKn0.out W hb).mono fun e w' (⟨v, h1, h2, h3⟩ : IsKnown W t.pn (knownL t.ps t.rs t.pn (h0, true) (dive ++ [st0])) (errI true) e w') => (show ∃ A' c', e = Ending.returned (.tuple #[.slice A' (n + 1) c', .int .i64 0]) ∧ Lists w' W.heap.size (.slice A' (n + 1) c') t.pn (knownL t.ps t.rs t.pn (h0, true) (dive ++ [st0])) ∧ Below W.heap.size W w' from by
            obtain ⟨A', c', rfl⟩ := h2.form2
            rw [HKl.out] at h1 h2
            exact ⟨A', c', h1, h2, h3⟩)
          have hpl : t.ps.length = t.rs.length := by rw [hi.ps.1, hrl]
          cases hf : fitsB t.rs dive x
          · rw [hf] at HFt
            generalize keptF t (h0, true) dive = kf at *
            generalize knownL t.ps t.rs t.pn (h0, true) (dive ++ [st0]) = xss at *
            clear hs hi hd hx hsm hbr hdb hsh hok hds hlen e1 e2 e3 hf hpl hrl HKn0 hdl
            obtain ⟨pA, sA, rA, pn, pc, sn, sc, rn, rc, ps, ss, rs⟩ := t
            obtain ⟨xA, dA, mA, xn, xc, dn, dc, mn, mc, xs, ds, ms⟩ := x
            simp only [Tm.tab, Tm.man, Tr.val] at *
            go_enter Tryz.func9, Tryz.ntmps9
            go_wp2_with (first
              | (go_at_call 26; refine (HSh.out _).mono ?_; rintro e w26 ⟨rfl, hb⟩; have EE := Lib.hid (E0.out.keep hb); have ct := EE.out.tab.cell; have cm := EE.out.man.cell; have cx := EE.out.tr.cell; clear hb)
              | (go_at_call 27; refine (HBr.out _).mono ?_; rintro e w27 ⟨rfl, hb⟩; replace EE := Lib.hid (EE.out.keep hb); replace ct := EE.out.tab.cell; replace cm := EE.out.man.cell; replace cx := EE.out.tr.cell; clear hb)
              | (go_at_call 32; refine (HFi.out _ EE.out.below).mono ?_; rintro e w32 ⟨rfl, hb⟩; replace EE := Lib.hid (EE.out.keep hb); replace ct := EE.out.tab.cell; replace cm := EE.out.man.cell; replace cx := EE.out.tr.cell; clear hb)
              | (go_at_call 33; refine (HTr.out _).mono ?_; rintro e w33 ⟨rfl, hb⟩; replace EE := Lib.hid (EE.out.keep hb); replace ct := EE.out.tab.cell; replace cm := EE.out.man.cell; replace cx := EE.out.tr.cell; clear hb)
              | (go_at_call 29; refine (HFt.out _ EE.out.below).mono ?_; rintro e w29 ⟨rfl, hb⟩; replace EE := Lib.hid (EE.out.keep hb); replace ct := EE.out.tab.cell; replace cm := EE.out.man.cell; replace cx := EE.out.tr.cell; clear hb)
              | (go_at_call 37; refine (HKn.out _ EE.out.below).mono ?_; rintro e w37 ⟨A37, c37, rfl, hl37, hb⟩; replace EE := Lib.hid (EE.out.keep hb); have HK := Lib.hid hl37; clear hl37; replace ct := EE.out.tab.cell; replace cm := EE.out.man.cell; replace cx := EE.out.tr.cell; clear hb)
              | (go_at_call 40; refine (HSu.out _ EE.out.below).mono ?_; rintro e w40 ⟨rfl, hb⟩; replace EE := Lib.hid (EE.out.keep hb); replace HK := Lib.hid (HK.out.keep hb); replace ct := EE.out.tab.cell; replace cm := EE.out.man.cell; replace cx := EE.out.tr.cell; clear hb)
              | (go_at_call 15; refine (knownLaw_c _).mono ?_; rintro e w15 ⟨rfl, hb⟩; have HB := Lib.hid (nextB EE.out.below hb); clear hb))
            exact bodyPost_ret (results_tmp rfl _ _ _) rfl ⟨rfl, HB.out⟩
          · rw [hf] at HFt
            have l1 : x.xs.length = t.rs.length := by rw [hx.xs.1, hrl]; omega
            have l2 : x.ds.length = dive.length := by rw [hx.ds.1, hd.1]; omega
            have l3 : x.ms.length = dive.length := by rw [hx.ms.1, hd.1]; omega
            have hfit := fitsB_fit hf l1 l2 l3
            have hg : goodB t n dive x = true := by simp [goodB, hdb, hsh, hf]
            have HRn := Lib.hid fun (W : World) (hb : Below w.heap.size w W) => (Run_c t hsm A n c dive x (by omega) W (hi.keep hb) (hd.keep hb) (hx.keep hb)).mono fun e w' (⟨v, h1, h2, h3⟩ : IsRun W t.pn (runF t n dive x) (errI (goodB t n dive x)) e w') => (show ∃ A' c', e = Ending.returned (.tuple #[.slice A' (n + 1) c', .int .i64 0]) ∧ Ils w' W.heap.size 0 (.slice A' (n + 1) c') t.pn (runT x.xs x.ds x.ms t.pn n) ∧ Below W.heap.size W w' from by
              rw [show runF t n dive x = runT x.xs x.ds x.ms t.pn n by simp [runF, hg]] at h2
              rw [hg] at h1
              obtain ⟨A', c', rfl⟩ := h2.form
              rw [runT_len] at h1 h2
              exact ⟨A', c', h1, h2, h3⟩)
            have HKp := Lib.hid fun (L : Option Addr) (c' b0 l0 : Nat) (W : World) (hb : Below w.heap.size w W) (hL : Ils W b0 l0 (.slice L (n + 1) c') t.pn (runT x.xs x.ds x.ms t.pn n)) => (show Calls Tryz.prog 41 #[t.tab, x.val, .slice L (n + 1) c'] W fun e w' => e = .returned (.int .i64 (keptI t.ps x.xs x.ds x.ms t.pn n)) ∧ Below W.heap.size W w' from by
              have := kept_c t hok dive x hds hfit (by omega) (by omega) L (n + 1) c' b0 l0 W (hi.keep hb) (hx.keep hb) (by omega) (by rw [hdl]; exact hL)
              rwa [hdl] at this)
            have HSp := Lib.hid fun (i : Nat) (hi : i < n + 1) => known_at (ps := t.ps) hfit hok.rates hds hrl (i := i) (by omega)
            have HSK := Lib.hid fun hk => sure_kept hok hfit hds hpl hrl hk
            rw [hdl] at HSK
            have HRl := Lib.hid (runT_len x.xs x.ds x.ms t.pn n)
            have HRr := Lib.hid fun (i : Nat) (h : i < n + 1) => (show (runT x.xs x.ds x.ms t.pn n)[i]? = some (rowT x.xs x.ds x.ms t.pn i) by simp [runT, h])
            have HRk := Lib.hid fun (i k : Nat) (h : k < t.pn) => (show (rowT x.xs x.ds x.ms t.pn i)[k]? = some (heldT x.xs x.ds x.ms i k) by simp [rowT, h])
            obtain ⟨kp, hkp⟩ : ∃ kp, keptI t.ps x.xs x.ds x.ms t.pn n = kp := ⟨_, rfl⟩
            have HKP := Lib.hid (show 0 ≤ kp ∧ kp ≤ 1 by rw [← hkp]; unfold keptI; split <;> omega)
            rw [hkp] at HKp HSK
            have hkp0 := HKP.out
            generalize keptF t (h0, true) dive = kf at *
            generalize knownL t.ps t.rs t.pn (h0, true) (dive ++ [st0]) = xss at *
            clear hs hi hd hx hsm hbr hdb hsh hok hds hlen e1 e2 e3 hf hpl hrl HKn0 hdl l1 l2 l3 hfit hg hkp
            obtain ⟨pA, sA, rA, pn, pc, sn, sc, rn, rc, ps, ss, rs⟩ := t
            obtain ⟨xA, dA, mA, xn, xc, dn, dc, mn, mc, xs, ds, ms⟩ := x
            simp only [Tm.tab, Tm.man, Tr.val] at *
            go_enter Tryz.func9, Tryz.ntmps9
            go_wp2_with (first
              | (go_at_call 26; refine (HSh.out _).mono ?_; rintro e w26 ⟨rfl, hb⟩; have EE := Lib.hid (E0.out.keep hb); have ct := EE.out.tab.cell; have cm := EE.out.man.cell; have cx := EE.out.tr.cell; clear hb)
              | (go_at_call 27; refine (HBr.out _).mono ?_; rintro e w27 ⟨rfl, hb⟩; replace EE := Lib.hid (EE.out.keep hb); replace ct := EE.out.tab.cell; replace cm := EE.out.man.cell; replace cx := EE.out.tr.cell; clear hb)
              | (go_at_call 32; refine (HFi.out _ EE.out.below).mono ?_; rintro e w32 ⟨rfl, hb⟩; replace EE := Lib.hid (EE.out.keep hb); replace ct := EE.out.tab.cell; replace cm := EE.out.man.cell; replace cx := EE.out.tr.cell; clear hb)
              | (go_at_call 33; refine (HTr.out _).mono ?_; rintro e w33 ⟨rfl, hb⟩; replace EE := Lib.hid (EE.out.keep hb); replace ct := EE.out.tab.cell; replace cm := EE.out.man.cell; replace cx := EE.out.tr.cell; clear hb)
              | (go_at_call 29; refine (HFt.out _ EE.out.below).mono ?_; rintro e w29 ⟨rfl, hb⟩; replace EE := Lib.hid (EE.out.keep hb); replace ct := EE.out.tab.cell; replace cm := EE.out.man.cell; replace cx := EE.out.tr.cell; clear hb)
              | (go_at_call 37; refine (HKn.out _ EE.out.below).mono ?_; rintro e w37 ⟨A37, c37, rfl, hl37, hb⟩; replace EE := Lib.hid (EE.out.keep hb); have HK := Lib.hid hl37; clear hl37; replace ct := EE.out.tab.cell; replace cm := EE.out.man.cell; replace cx := EE.out.tr.cell; clear hb)
              | (go_at_call 40; refine (HSu.out _ EE.out.below).mono ?_; rintro e w40 ⟨rfl, hb⟩; replace EE := Lib.hid (EE.out.keep hb); replace HK := Lib.hid (HK.out.keep hb); replace ct := EE.out.tab.cell; replace cm := EE.out.man.cell; replace cx := EE.out.tr.cell; clear hb)
              | (go_at_call 30; refine (HRn.out _ EE.out.below).mono ?_; rintro e w30 ⟨A30, c30, rfl, hl30, hb⟩; replace EE := Lib.hid (EE.out.keep hb); replace HK := Lib.hid (HK.out.keep hb); have HL := Lib.hid hl30; clear hl30; replace ct := EE.out.tab.cell; replace cm := EE.out.man.cell; replace cx := EE.out.tr.cell; clear hb)
              | (go_at_call 41; refine (HKp.out A30 c30 _ 0 _ EE.out.below HL.out).mono ?_; rintro e w41 ⟨rfl, hb⟩; replace EE := Lib.hid (EE.out.keep hb); replace HK := Lib.hid (HK.out.keep hb); replace HL := Lib.hid (HL.out.keep hb); replace ct := EE.out.tab.cell; replace cm := EE.out.man.cell; replace cx := EE.out.tr.cell; clear hb))
            clear ct cm cx HFi HTr HFt HSu HKn HRn HKp HSh HBr E0
            obtain ⟨wo, rfl⟩ : ∃ wo : World, wo = w41 := ⟨_, rfl⟩
            go_loopw [18] (fun v wr => ∃ i : Nat, i ≤ n + 1 ∧ v = .int .i64 i ∧ Below wo.heap.size wo wr) (fun v _ => n + 1 - (intOf v).toNat)
            case atStart => exact ⟨0, by omega, rfl, Below.refl _ _⟩
            case round =>
              obtain ⟨i, hi, rfl, hB⟩ := hrel
              have HB := Lib.hid hB
              clear hB
              by_cases hin : i < n + 1
              · have hin2 : (i : Int) < (n : Int) + 1 := by omega
                obtain ⟨sp, hsp, hspk⟩ := HSp.out i hin
                have HSpk := Lib.hid hspk
                obtain ⟨g1, D1, cap1, rfl, hc1, hs1⟩ := (HL.out.keep HB.out).at (HRr.out i hin) HRl.out
                obtain ⟨g2, D2, rfl, hc2, hs2⟩ := (HK.out.keep HB.out).at2 hsp HKl.out
                have C1 := Lib.hid fun (W : World) (hb : Below wr.heap.size wr W) => ccell hb hc1
                have C2 := Lib.hid fun (W : World) (hb : Below wr.heap.size wr W) => ccell hb hc2
                have HS1 := Lib.hid hs1; have HS2 := Lib.hid hs2
                clear hspk hsp hc1 hc2 hs1 hs2
                go_wp2
                refine wp_free 9 (by kernel_rfl) (by kernel_rfl) (by kernel_rfl) (by decide) ?_
                intro K hK
                iterate 9 (apply Obl.val (by decide) (by kernel_rfl); (intro w' hb; have := C2.out w' hb; have := (EE.out.keep (nextB HB.out hb)).tab.cell; go_simp; try rfl))
                apply Obl.nil
                apply hK
                intro w7 hb
                simp only [Act.put, List.setIfInBounds_toArray, List.set_cons_zero, List.set_cons_succ, List.drop_succ_cons, List.drop_zero]
                clear hK K
                have HB7 := Lib.hid hb
                clear hb
                go_wp2
                obtain ⟨wp, rfl⟩ : ∃ wp : World, wp = wr := ⟨_, rfl⟩
                go_loopw [19] (fun v wr => ∃ k : Nat, k ≤ pn ∧ v = .int .i64 k ∧ Below wp.heap.size wp wr) (fun v _ => pn - (intOf v).toNat)
                case atStart => exact ⟨0, by omega, rfl, HB7.out⟩
                case round =>
                  clear HB7
                  obtain ⟨k, hk, rfl, hB7⟩ := hrel
                  have HB7 := Lib.hid hB7
                  have c2 := C2.out wr hB7
                  clear hB7
                  by_cases hkn : k < pn
                  · obtain ⟨lo, hh, hpk, hlo, hhi⟩ := HSpk.out k hkn
                    have CD := Lib.hid fun (W : World) (hb : Below wp.heap.size wp W) => (show W.cell? ⟨D1, k, none⟩ = some (.int .i64 (heldT xs ds ms i k)) by simpa using ((HS1.out.keep hb).range inC_len (HRk.out i k hkn)) 0 _ rfl)
                    have CE := Lib.hid fun (W : World) (hb : Below wp.heap.size wp W) => (show W.cell? ⟨D2, k * 2, none⟩ = some (.int .i64 lo) ∧ W.cell? ⟨D2, k * 2 + 1, none⟩ = some (.int .i64 hh) from ⟨by simpa using ((HS2.out.keep hb).range prC_len hpk) 0 _ rfl, by simpa using ((HS2.out.keep hb).range prC_len hpk) 1 _ rfl⟩)
                    generalize heldT xs ds ms i k = h at *
                    clear hpk
                    have hn1 : ¬ h < lo := by omega
                    have hn2 : ¬ h > hh := by omega
                    go_wp2
                    refine wp_free 34 (by kernel_rfl) (by kernel_rfl) (by kernel_rfl) (by decide) ?_
                    intro K hK
                    iterate 15 (apply Obl.val (by decide) (by kernel_rfl); (intro w' hb; have := C1.out w' (nextB HB7.out hb); have := C2.out w' (nextB HB7.out hb); have := CD.out w' (nextB HB7.out hb); obtain ⟨f1, f2⟩ := CE.out w' (nextB HB7.out hb); go_simp; try rfl))
                    (apply Obl.val (v := .bool false) (by decide) (by kernel_rfl); (focus (intro w' hb; go_simp; try (first | omega | (simp; omega)))))
                    iterate 16 (apply Obl.val (by decide) (by kernel_rfl); (intro w' hb; have := C1.out w' (nextB HB7.out hb); have := C2.out w' (nextB HB7.out hb); have := CD.out w' (nextB HB7.out hb); obtain ⟨f1, f2⟩ := CE.out w' (nextB HB7.out hb); go_simp; try rfl))
                    (apply Obl.val (v := .bool false) (by decide) (by kernel_rfl); (focus (intro w' hb; go_simp; try (first | omega | (simp; omega)))))
                    (apply Obl.val (by decide) (by kernel_rfl); (intro w' hb; have := C1.out w' (nextB HB7.out hb); have := C2.out w' (nextB HB7.out hb); have := CD.out w' (nextB HB7.out hb); obtain ⟨f1, f2⟩ := CE.out w' (nextB HB7.out hb); go_simp; try rfl))
                    apply Obl.nil
                    apply hK
                    intro w8 hb
                    simp only [Act.put, List.setIfInBounds_toArray, List.set_cons_zero, List.set_cons_succ, List.drop_succ_cons, List.drop_zero]
                    clear hK K
                    have HB8 := Lib.hid (nextB HB7.out hb)
                    clear hb
                    go_wp2
                    go_roundw
                    case rel => exact ⟨k + 1, by omega, by go_num, HB8.out⟩
                    case measure => simp [intOf]; omega
                  · have hke : pn = k := by omega
                    subst hke
                    go_wp2
                    go_roundw
                    case rel => exact ⟨i + 1, by omega, by go_num, nextB HB.out HB7.out⟩
                    case measure => simp [intOf]; omega
              · have hie : n + 1 = i := by omega
                have HB9 := Lib.hid (nextB EE.out.below HB.out)
                have hkp := HKP.out
                have hs := HSK.out
                clear EE HB HK HL HSp HSK HRl HRr HRk HKl HKP
                subst hie
                by_cases hk1 : kp = 1
                · subst hk1
                  clear hs hkp hkp0
                  cases kf
                  all_goals
                    go_wp2_with (go_at_call 15; refine (knownLaw_c _).mono ?_; rintro e w9 ⟨rfl, hb⟩; have HB := Lib.hid (nextB HB9.out hb); clear hb)
                    exact bodyPost_ret (results_tmp rfl _ _ _) rfl ⟨rfl, HB.out⟩
                · have hk0 : kp = 0 := by omega
                  subst hk0
                  cases kf
                  · clear hs hkp hkp0
                    go_wp2_with (go_at_call 15; refine (knownLaw_c _).mono ?_; rintro e w9 ⟨rfl, hb⟩; have HB := Lib.hid (nextB HB9.out hb); clear hb)
                    exact bodyPost_ret (results_tmp rfl _ _ _) rfl ⟨rfl, HB.out⟩
                  · exact absurd (hs rfl) (by omega)
end Go.Proofs
namespace Go.Proofs.YtahochgbkhpefaaGreatDoor.gasTrue
open Go.ChangeShapes Go.WideShapes Go.ChangeAt Go.RowKit Go.Proofs

theorem own : ownKnob Tryz.prog.godebug = none := by kernel_rfl
theorem laidOut : laidOutB Tryz.prog = true := by kernel_rfl
theorem door_met (os : Os) (args : Array Value) : laidMetH Tryz.prog Rows.gasTrueRow.laid ((World.doorLaid Tryz.prog 400 os).forCall (fun _ _ => 0) ⟨#[], args, []⟩).memory :=
  laidMetH_of_parts3 (fuel := 8) (laidMet_of_run' 8 (by kernel_rfl) (by kernel_rfl)) (by kernel_rfl) (by kernel_rfl)

set_option maxRecDepth 100000 in
theorem lifted (os : Os) (started : os.Started) (H : Type) (enc : TypeId × Value → H) :
    ReturnsInHanded {} Tryz.checked os 9 .any (fun w args => (Rows.gasTrueSpec.pre enc Tryz.prog Tryz.f9 [] false w args ∧ laidMetH Tryz.prog Rows.gasTrueRow.laid w) ∧ sizedMet enc Tryz.prog Tryz.f9 (OpenSpec.ofChange Rows.gasTrueSpec) false w args)
      (Rows.gasTrueSpec.post enc Tryz.prog Tryz.f9 false true false false) := by
  refine returnsInHanded_of_change_and (C := Tryz.checked) (X := fun w _ => laidMetH Tryz.prog Rows.gasTrueRow.laid w) (fun _ _ _ hh h => h.of_heap hh) own started (by kernel_rfl) Tryz.func9
    (ChangeSpec.witness_shaped (enc := enc) (C := Tryz.checked) (os := os) (X := fun w _ => laidMetH Tryz.prog Rows.gasTrueRow.laid w) false (World.doorLaid Tryz.prog 400 os) #[.agg #[.slice none 0 0, .slice none 0 0], .agg #[.slice none 0 0], .slice none 0 0, .agg #[.slice none 0 0, .slice none 0 0, .slice none 0 0]] 8 rfl (World.shaped_of_RefB (by kernel_rfl) (by kernel_rfl)) (by kernel_rfl) (by kernel_rfl) (by kernel_rfl) (door_met os _)) ?_
  intro W base args ds gs before hval0 hW _ _ hL _
  have hval : ∀ (j : Nat) t v, Tryz.f9.params[j]? = some t → args[j]? = some v → Value.okWide Tryz.prog W .any base t v := hval0
  have hW' := hW
  obtain ⟨p, q, hA0, hV, rfl, hfz, hnd⟩ := hW
  have hA : DataW.TrodAll enc Tryz.prog W 0 (fun _ => true) true Tryz.f9.params.toList args.toList ds p := hA0
  rw [Tryz.params9] at hA hval
  obtain ⟨v0, vs0, d0, ds0, p0, q0, hargs, rfl, rfl, h0, r0⟩ := trodAll_cons hA
  obtain ⟨v1, vs1, d1, ds1, p1, q1, rfl, rfl, rfl, h1, r1⟩ := trodAll_cons r0
  obtain ⟨v2, vs2, d2, ds2, p2, q2, rfl, rfl, rfl, h2, r2⟩ := trodAll_cons r1
  obtain ⟨v3, vs3, d3, ds3, p3, q3, rfl, rfl, rfl, h3, r3⟩ := trodAll_cons r2
  obtain ⟨rfl, rfl, rfl⟩ := trodAll_nil r3
  obtain rfl : args = #[v0, v1, v2, v3] := by cases args; simp_all
  obtain ⟨rfl, rfl⟩ := trodVars_none hV
  have k0 := h0
  have lt0 : ∀ x ∈ p0, x.block < W.heap.size := by obtain ⟨m, hm⟩ := k0; exact DataW.trod_lt m _ _ _ hm
  have u0 := hval 0 50 v0 rfl rfl
  obtain ⟨pA, pn, pc, ps, sA, sn, sc, ss, rfl, hP, hS⟩ := arg_table u0 h0
  have k1 := h1
  have lt1 : ∀ x ∈ p1, x.block < W.heap.size := by obtain ⟨m, hm⟩ := k1; exact DataW.trod_lt m _ _ _ hm
  have u1 := hval 1 53 v1 rfl rfl
  obtain ⟨rA, rn, rc, rs, rfl, hR⟩ := arg_man u1 h1
  have k2 := h2
  have lt2 : ∀ x ∈ p2, x.block < W.heap.size := by obtain ⟨m, hm⟩ := k2; exact DataW.trod_lt m _ _ _ hm
  have u2 := hval 2 54 v2 rfl rfl
  obtain ⟨A2, n2, c2, l2, rfl, hd2, hc2, hm2, hA2⟩ := arg_dive u2 h2
  have k3 := h3
  have lt3 : ∀ x ∈ p3, x.block < W.heap.size := by obtain ⟨m, hm⟩ := k3; exact DataW.trod_lt m _ _ _ hm
  have u3 := hval 3 56 v3 rfl rfl
  obtain ⟨xA, xn, xc, xs, yA, yn, yc, ys, zA, zn, zc, zs, rfl, hX, hY, hZ⟩ := arg_truth u3 h3
  clear hA0 hval0
  simp only [List.append_nil] at hW'
  refine (gasTrue_walk ⟨pA, sA, rA, pn, pc, sn, sc, rn, rc, ps, ss, rs⟩ A2 n2 c2 l2 hA2 ⟨xA, yA, zA, xn, xc, yn, yc, zn, zc, xs, ys, zs⟩ W ⟨hP, hS, hR⟩ hd2 ⟨hX, hY, hZ⟩).mono fun e W' ⟨he, bel⟩ => ?_
  subst he
  exact ⟨_, rfl, _, _, _, [], _, [], hW', trodAll_mk1 (shut_bool Tryz.underlying4 _), (trodAll_cons_mk (Below.trod laidOut (by kernel_rfl) (of_decide_eq_true (by kernel_rfl)) k0 bel lt0) (trodAll_cons_mk (Below.trod laidOut (by kernel_rfl) (of_decide_eq_true (by kernel_rfl)) k1 bel lt1) (trodAll_cons_mk (Below.trod laidOut (by kernel_rfl) (of_decide_eq_true (by kernel_rfl)) k2 bel lt2) (trodAll_cons_mk (Below.trod laidOut (by kernel_rfl) (of_decide_eq_true (by kernel_rfl)) k3 bel lt3) trodAll_mk0)))), rfl, bel.frame _, fun h => by cases h⟩

theorem row_holds : Rows.GasTrueSaid :=
  OpenClaim.holds_of_wide 9 Tryz.f9 rfl rfl rfl rfl rfl rfl rfl ⟨rfl, rfl, rfl, rfl, rfl⟩ rfl rfl rfl rfl rfl (by kernel_rfl) Tryz.func9 (by kernel_rfl)
    (of_decide_eq_true (by kernel_rfl)) (by unfold Func.isWrapper; first | (rw [if_pos (by decide +kernel)]; kernel_rfl) | (rw [if_neg (by decide +kernel)]; exact ⟨rfl, rfl⟩))
    (fun os started H enc _ => lifted os started H enc)

theorem gasTrue_holds : Rows.GasTrueCardSaid :=
  Claim7.holds_tied_plain_at .later [] [.data, .data, .data] true (true, "7950fa0371113510b48b1005210e74e0fffa460a27dcdf5d658d223fe2172657") true
    row_holds (fun _ h => by cases h) (by kernel_rfl) (fun _ h => by cases h) gasTrue_row_tie rfl ⟨rfl, rfl⟩ (by kernel_rfl) rfl
    (fun f fn hf hfn => by
      obtain rfl : f = 9 := Option.some.inj ((show Tryz.prog.funcNamed "bathyal/bathyallaw02.GasTrue" = some 9 by kernel_rfl).symm.trans hf) |>.symm
      obtain rfl : fn = Tryz.f9 := (Option.some.inj (Tryz.func9.symm.trans hfn)).symm
      exact ⟨by kernel_rfl, fun j t ht => by
        rw [Tryz.params9] at ht
        have hm : t ∈ [50, 53, 54, 56] := by simpa using Array.mem_of_getElem? ht
        have hall : ([50, 53, 54, 56].all fun u => !Tryz.prog.wantsStandIn u) = true := by kernel_rfl
        exact (show Tryz.prog.wantsStandIn t = false by simpa using List.all_eq_true.1 hall t hm)⟩)
    (by kernel_rfl)
#print axioms gasTrue_holds
end Go.Proofs.YtahochgbkhpefaaGreatDoor.gasTrue
