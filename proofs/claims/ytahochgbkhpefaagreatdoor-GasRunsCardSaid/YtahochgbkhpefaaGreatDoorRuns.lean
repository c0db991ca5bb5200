/-
  The statement GasRuns holds for every input: the law returns true and what came in reads as before.
-/
import Derived.Test.YtahochgbkhpefaaGreatDoorP16
import Derived.Test.YtahochgbkhpefaaGreatDoorP11
import Derived.Test.YtahochgbkhpefaaGreatDoorRows
import Derived.Test.YtahochgbkhpefaaGreatDoorTie
import Derived.Test.YtahochgbkhpefaaGreatDoorCards
import Derived.Test.YtahochgbkhpefaaGreatDoorChecked
import Derived.ProofKit
import Derived.OpenShut
import Derived.LaidMore
import Derived.Stop.Joined
import Derived.SevenTiedAt
import Derived.Carry
namespace Go.Proofs
open Go.RowKit Go.Shelf Gas
attribute [local go_sem ↓] Go.wp_at_zero Go.wp_at_succ

set_option maxHeartbeats 4000000 in
set_option maxRecDepth 50000 in
theorem gasRuns_walk (t : Tm) (A : Option Addr) (n c : Nat) (dive : List St) (x : Tr) (w : World) (hi : t.In w) (hd : SlOf St.cs 4 w A n dive) (hx : x.In w) :
    Calls Tryz.prog 7 #[t.tab, t.man, .slice A n c, x.val] w fun e w' => e = .returned (.bool true) ∧ Below w.heap.size w w' := by
  have HSh := Lib.hid fun (W : World) => short_c t A n c W
  have HBr := Lib.hid fun (W : World) => brief_c x W
  have E0 := Lib.hid (Bt.start w t x)
  cases hs : shortB t n
  · rw [hs] at HSh
    clear hs hi hd hx
    obtain ⟨pA, sA, rA, pn, pc, sn, sc, rn, rc, ps, ss, rs⟩ := t
    obtain ⟨xA, dA, mA, xn, xc, dn, dc, mn, mc, xs, ds, ms⟩ := x
    simp only [Tm.tab, Tm.man, Tr.val] at *
    go_enter Tryz.func7, Tryz.ntmps7
    go_wp2_with (first
      | (go_at_call 26; refine (HSh.out _).mono ?_; rintro e w26 ⟨rfl, hb⟩; have EE := Lib.hid (E0.out.keep hb); have ct := EE.out.tab.cell; have cm := EE.out.man.cell; have cx := EE.out.tr.cell; clear hb)
      | (go_at_call 15; refine (knownLaw_c _).mono ?_; rintro e w15 ⟨rfl, hb⟩; have HB := Lib.hid (nextB EE.out.below hb); clear hb))
    exact bodyPost_ret (results_tmp rfl _ _ _) rfl ⟨rfl, HB.out⟩
  · rw [hs] at HSh
    obtain ⟨hsm, hn7⟩ := short_small hs
    cases hbr : briefB x
    · rw [hbr] at HBr
      clear hs hi hd hx hsm hbr
      obtain ⟨pA, sA, rA, pn, pc, sn, sc, rn, rc, ps, ss, rs⟩ := t
      obtain ⟨xA, dA, mA, xn, xc, dn, dc, mn, mc, xs, ds, ms⟩ := x
      simp only [Tm.tab, Tm.man, Tr.val] at *
      go_enter Tryz.func7, Tryz.ntmps7
      go_wp2_with (first
        | (go_at_call 26; refine (HSh.out _).mono ?_; rintro e w26 ⟨rfl, hb⟩; have EE := Lib.hid (E0.out.keep hb); have ct := EE.out.tab.cell; have cm := EE.out.man.cell; have cx := EE.out.tr.cell; clear hb)
        | (go_at_call 27; refine (HBr.out _).mono ?_; rintro e w27 ⟨rfl, hb⟩; replace EE := Lib.hid (EE.out.keep hb); replace ct := EE.out.tab.cell; replace cm := EE.out.man.cell; replace cx := EE.out.tr.cell; clear hb)
        | (go_at_call 15; refine (knownLaw_c _).mono ?_; rintro e w15 ⟨rfl, hb⟩; have HB := Lib.hid (nextB EE.out.below hb); clear hb))
      exact bodyPost_ret (results_tmp rfl _ _ _) rfl ⟨rfl, HB.out⟩
    · rw [hbr] at HBr
      have HFi := Lib.hid fun (W : World) (hb : Below w.heap.size w W) => fine_c t hsm A n c dive (by omega) W (hi.keep hb) (hd.keep hb)
      have hp1 := hsm.p
      have hp2 : t.sn ≤ 1000000 := by
        simp only [shortB, decide_eq_true_eq] at hs
        omega
      have HCk := Lib.hid fun (W : World) (hb : Below w.heap.size w W) => Check_c t.pA t.sA t.pn t.pc t.sn t.sc t.ps t.ss (by omega) (by omega) W (hi.ps.keep hb) (hi.ss.keep hb)
      have HTb := Lib.hid fun (W : World) (hb : Below w.heap.size w W) => refTable_c t.pA t.sA t.pn t.pc t.sn t.sc t.ps t.ss (by omega) (by omega) W (hi.ps.keep hb) (hi.ss.keep hb)
      have HFt := Lib.hid fun (W : World) (hb : Below w.heap.size w W) => Fits_c t hsm A n c dive x (by omega) W (hi.keep hb) (hd.keep hb) (hx.keep hb)
      have HRn0 := Lib.hid fun (W : World) (hb : Below w.heap.size w W) => Run_c t hsm A n c dive x (by omega) W (hi.keep hb) (hd.keep hb) (hx.keep hb)
      have HTr := Lib.hid fun (W : World) => truth_c t A n c x W
      have HEr := Lib.hid fun (hg : goodB t n dive x = false) (W : World) (hb : Below w.heap.size w W) => (HRn0.out W hb).mono fun e w' (⟨v, h1, h2, h3⟩ : IsRun W t.pn (runF t n dive x) (errI (goodB t n dive x)) e w') => (show ∃ A' c', e = Ending.returned (.tuple #[.slice A' 0 c', .int .i64 2]) ∧ Below W.heap.size W w' from by
        rw [show runF t n dive x = [] by simp [runF, hg]] at h2
        rw [hg] at h1
        obtain ⟨A', c', rfl⟩ := h2.form
        exact ⟨A', c', h1, h3⟩)
      cases htb : tableB t.ps t.ss
      · have hdb : definedB t.ps t.ss t.rs dive 0 = false := by simp [definedB, htb]
        rw [htb] at HCk HTb
        rw [hdb] at HFi
        rw [show fitsF t n dive x = (false, 2) by simp [fitsF, hdb]] at HFt
        have HRn := Lib.hid (HEr.out (by simp [goodB, hdb]))
        clear hi hd hx hsm hs hbr htb hdb HRn0 HEr hp1 hp2
        obtain ⟨pA, sA, rA, pn, pc, sn, sc, rn, rc, ps, ss, rs⟩ := t
        obtain ⟨xA, dA, mA, xn, xc, dn, dc, mn, mc, xs, ds, ms⟩ := x
        simp only [Tm.tab, Tm.man, Tr.val] at *
        go_enter Tryz.func7, Tryz.ntmps7
        go_wp2_with (first
          | (go_at_call 26; refine (HSh.out _).mono ?_; rintro e w26 ⟨rfl, hb⟩; have EE := Lib.hid (E0.out.keep hb); have ct := EE.out.tab.cell; have cm := EE.out.man.cell; have cx := EE.out.tr.cell; clear hb)
          | (go_at_call 27; refine (HBr.out _).mono ?_; rintro e w27 ⟨rfl, hb⟩; replace EE := Lib.hid (EE.out.keep hb); replace ct := EE.out.tab.cell; replace cm := EE.out.man.cell; replace cx := EE.out.tr.cell; clear hb)
          | (go_at_call 28; refine (HCk.out _ EE.out.below).mono ?_; rintro e w28 ⟨rfl, hb⟩; replace EE := Lib.hid (EE.out.keep hb); replace ct := EE.out.tab.cell; replace cm := EE.out.man.cell; replace cx := EE.out.tr.cell; clear hb)
          | (go_at_call 29; refine (HFt.out _ EE.out.below).mono ?_; rintro e w29 ⟨rfl, hb⟩; replace EE := Lib.hid (EE.out.keep hb); replace ct := EE.out.tab.cell; replace cm := EE.out.man.cell; replace cx := EE.out.tr.cell; clear hb)
          | (go_at_call 30; refine (HRn.out _ EE.out.below).mono ?_; rintro e w30 ⟨A30, c30, rfl, hb⟩; replace EE := Lib.hid (EE.out.keep hb); replace ct := EE.out.tab.cell; replace cm := EE.out.man.cell; replace cx := EE.out.tr.cell; clear hb)
          | (go_at_call 31; refine (HTb.out _ EE.out.below).mono ?_; rintro e w31 ⟨rfl, hb⟩; replace EE := Lib.hid (EE.out.keep hb); replace ct := EE.out.tab.cell; replace cm := EE.out.man.cell; replace cx := EE.out.tr.cell; clear hb)
          | (go_at_call 32; refine (HFi.out _ EE.out.below).mono ?_; rintro e w32 ⟨rfl, hb⟩; replace EE := Lib.hid (EE.out.keep hb); replace ct := EE.out.tab.cell; replace cm := EE.out.man.cell; replace cx := EE.out.tr.cell; clear hb)
          | (go_at_call 33; refine (HTr.out _).mono ?_; rintro e w33 ⟨rfl, hb⟩; replace EE := Lib.hid (EE.out.keep hb); replace ct := EE.out.tab.cell; replace cm := EE.out.man.cell; replace cx := EE.out.tr.cell; clear hb)
          | (go_at_call 15; refine (knownLaw_c _).mono ?_; rintro e w15 ⟨rfl, hb⟩; have HB := Lib.hid (nextB EE.out.below hb); clear hb))
        exact bodyPost_ret (results_tmp rfl _ _ _) rfl ⟨rfl, HB.out⟩
      · rw [htb] at HCk HTb
        cases hdb : definedB t.ps t.ss t.rs dive 0
        · rw [hdb] at HFi
          rw [show fitsF t n dive x = (false, 2) by simp [fitsF, hdb]] at HFt
          have HRn := Lib.hid (HEr.out (by simp [goodB, hdb]))
          clear hi hd hx hsm hs hbr htb hdb HRn0 HEr hp1 hp2
          obtain ⟨pA, sA, rA, pn, pc, sn, sc, rn, rc, ps, ss, rs⟩ := t
          obtain ⟨xA, dA, mA, xn, xc, dn, dc, mn, mc, xs, ds, ms⟩ := x
          simp only [Tm.tab, Tm.man, Tr.val] at *
          go_enter Tryz.func7, Tryz.ntmps7
          go_wp2_with (first
            | (go_at_call 26; refine (HSh.out _).mono ?_; rintro e w26 ⟨rfl, hb⟩; have EE := Lib.hid (E0.out.keep hb); have ct := EE.out.tab.cell; have cm := EE.out.man.cell; have cx := EE.out.tr.cell; clear hb)
            | (go_at_call 27; refine (HBr.out _).mono ?_; rintro e w27 ⟨rfl, hb⟩; replace EE := Lib.hid (EE.out.keep hb); replace ct := EE.out.tab.cell; replace cm := EE.out.man.cell; replace cx := EE.out.tr.cell; clear hb)
            | (go_at_call 28; refine (HCk.out _ EE.out.below).mono ?_; rintro e w28 ⟨rfl, hb⟩; replace EE := Lib.hid (EE.out.keep hb); replace ct := EE.out.tab.cell; replace cm := EE.out.man.cell; replace cx := EE.out.tr.cell; clear hb)
            | (go_at_call 29; refine (HFt.out _ EE.out.below).mono ?_; rintro e w29 ⟨rfl, hb⟩; replace EE := Lib.hid (EE.out.keep hb); replace ct := EE.out.tab.cell; replace cm := EE.out.man.cell; replace cx := EE.out.tr.cell; clear hb)
            | (go_at_call 30; refine (HRn.out _ EE.out.below).mono ?_; rintro e w30 ⟨A30, c30, rfl, hb⟩; replace EE := Lib.hid (EE.out.keep hb); replace ct := EE.out.tab.cell; replace cm := EE.out.man.cell; replace cx := EE.out.tr.cell; clear hb)
            | (go_at_call 31; refine (HTb.out _ EE.out.below).mono ?_; rintro e w31 ⟨rfl, hb⟩; replace EE := Lib.hid (EE.out.keep hb); replace ct := EE.out.tab.cell; replace cm := EE.out.man.cell; replace cx := EE.out.tr.cell; clear hb)
            | (go_at_call 32; refine (HFi.out _ EE.out.below).mono ?_; rintro e w32 ⟨rfl, hb⟩; replace EE := Lib.hid (EE.out.keep hb); replace ct := EE.out.tab.cell; replace cm := EE.out.man.cell; replace cx := EE.out.tr.cell; clear hb)
            | (go_at_call 33; refine (HTr.out _).mono ?_; rintro e w33 ⟨rfl, hb⟩; replace EE := Lib.hid (EE.out.keep hb); replace ct := EE.out.tab.cell; replace cm := EE.out.man.cell; replace cx := EE.out.tr.cell; clear hb)
            | (go_at_call 15; refine (knownLaw_c _).mono ?_; rintro e w15 ⟨rfl, hb⟩; have HB := Lib.hid (nextB EE.out.below hb); clear hb))
          exact bodyPost_ret (results_tmp rfl _ _ _) rfl ⟨rfl, HB.out⟩
        · rw [hdb] at HFi
          cases hsh : shapedB t n x
          · rw [hsh] at HTr
            rw [show fitsF t n dive x = (false, 2) by simp [fitsF, hsh]] at HFt
            have HRn := Lib.hid (HEr.out (by simp [goodB, hsh]))
            clear hi hd hx hsm hs hbr htb hdb HRn0 HEr hp1 hp2 hsh
            obtain ⟨pA, sA, rA, pn, pc, sn, sc, rn, rc, ps, ss, rs⟩ := t
            obtain ⟨xA, dA, mA, xn, xc, dn, dc, mn, mc, xs, ds, ms⟩ := x
            simp only [Tm.tab, Tm.man, Tr.val] at *
            go_enter Tryz.func7, Tryz.ntmps7
            go_wp2_with (first
              | (go_at_call 26; refine (HSh.out _).mono ?_; rintro e w26 ⟨rfl, hb⟩; have EE := Lib.hid (E0.out.keep hb); have ct := EE.out.tab.cell; have cm := EE.out.man.cell; have cx := EE.out.tr.cell; clear hb)
              | (go_at_call 27; refine (HBr.out _).mono ?_; rintro e w27 ⟨rfl, hb⟩; replace EE := Lib.hid (EE.out.keep hb); replace ct := EE.out.tab.cell; replace cm := EE.out.man.cell; replace cx := EE.out.tr.cell; clear hb)
              | (go_at_call 28; refine (HCk.out _ EE.out.below).mono ?_; rintro e w28 ⟨rfl, hb⟩; replace EE := Lib.hid (EE.out.keep hb); replace ct := EE.out.tab.cell; replace cm := EE.out.man.cell; replace cx := EE.out.tr.cell; clear hb)
              | (go_at_call 29; refine (HFt.out _ EE.out.below).mono ?_; rintro e w29 ⟨rfl, hb⟩; replace EE := Lib.hid (EE.out.keep hb); replace ct := EE.out.tab.cell; replace cm := EE.out.man.cell; replace cx := EE.out.tr.cell; clear hb)
              | (go_at_call 30; refine (HRn.out _ EE.out.below).mono ?_; rintro e w30 ⟨A30, c30, rfl, hb⟩; replace EE := Lib.hid (EE.out.keep hb); replace ct := EE.out.tab.cell; replace cm := EE.out.man.cell; replace cx := EE.out.tr.cell; clear hb)
              | (go_at_call 31; refine (HTb.out _ EE.out.below).mono ?_; rintro e w31 ⟨rfl, hb⟩; replace EE := Lib.hid (EE.out.keep hb); replace ct := EE.out.tab.cell; replace cm := EE.out.man.cell; replace cx := EE.out.tr.cell; clear hb)
              | (go_at_call 32; refine (HFi.out _ EE.out.below).mono ?_; rintro e w32 ⟨rfl, hb⟩; replace EE := Lib.hid (EE.out.keep hb); replace ct := EE.out.tab.cell; replace cm := EE.out.man.cell; replace cx := EE.out.tr.cell; clear hb)
              | (go_at_call 33; refine (HTr.out _).mono ?_; rintro e w33 ⟨rfl, hb⟩; replace EE := Lib.hid (EE.out.keep hb); replace ct := EE.out.tab.cell; replace cm := EE.out.man.cell; replace cx := EE.out.tr.cell; clear hb)
              | (go_at_call 15; refine (knownLaw_c _).mono ?_; rintro e w15 ⟨rfl, hb⟩; have HB := Lib.hid (nextB EE.out.below hb); clear hb))
            exact bodyPost_ret (results_tmp rfl _ _ _) rfl ⟨rfl, HB.out⟩
          · rw [hsh] at HTr
            obtain ⟨hok, hds, hlen⟩ := defined_ok hsm hi hdb
            obtain ⟨e1, e2, e3⟩ := shaped_len hsh
            have HRF := Lib.hid fun (W : World) (hb : Below w.heap.size w W) => refFits_c t.rA A t.rn t.rc n c t.rs dive x hsm.r (by omega) (e1.trans hok.np.symm) e2 e3 W (hi.rs.keep hb) (hd.keep hb) (hx.keep hb)
            cases hf : fitsB t.rs dive x
            · rw [hf] at HRF
              rw [show fitsF t n dive x = (false, 0) by simp [fitsF, hsh, hdb, hf]] at HFt
              have HRn := Lib.hid (HEr.out (by simp [goodB, hf]))
              clear hi hd hx hsm hs hbr htb hdb HRn0 HEr hp1 hp2 hsh hok hds hlen e1 e2 e3 hf
              obtain ⟨pA, sA, rA, pn, pc, sn, sc, rn, rc, ps, ss, rs⟩ := t
              obtain ⟨xA, dA, mA, xn, xc, dn, dc, mn, mc, xs, ds, ms⟩ := x
              simp only [Tm.tab, Tm.man, Tr.val] at *
              go_enter Tryz.func7, Tryz.ntmps7
              go_wp2_with (first
                | (go_at_call 26; refine (HSh.out _).mono ?_; rintro e w26 ⟨rfl, hb⟩; have EE := Lib.hid (E0.out.keep hb); have ct := EE.out.tab.cell; have cm := EE.out.man.cell; have cx := EE.out.tr.cell; clear hb)
                | (go_at_call 27; refine (HBr.out _).mono ?_; rintro e w27 ⟨rfl, hb⟩; replace EE := Lib.hid (EE.out.keep hb); replace ct := EE.out.tab.cell; replace cm := EE.out.man.cell; replace cx := EE.out.tr.cell; clear hb)
                | (go_at_call 28; refine (HCk.out _ EE.out.below).mono ?_; rintro e w28 ⟨rfl, hb⟩; replace EE := Lib.hid (EE.out.keep hb); replace ct := EE.out.tab.cell; replace cm := EE.out.man.cell; replace cx := EE.out.tr.cell; clear hb)
                | (go_at_call 29; refine (HFt.out _ EE.out.below).mono ?_; rintro e w29 ⟨rfl, hb⟩; replace EE := Lib.hid (EE.out.keep hb); replace ct := EE.out.tab.cell; replace cm := EE.out.man.cell; replace cx := EE.out.tr.cell; clear hb)
                | (go_at_call 30; refine (HRn.out _ EE.out.below).mono ?_; rintro e w30 ⟨A30, c30, rfl, hb⟩; replace EE := Lib.hid (EE.out.keep hb); replace ct := EE.out.tab.cell; replace cm := EE.out.man.cell; replace cx := EE.out.tr.cell; clear hb)
                | (go_at_call 31; refine (HTb.out _ EE.out.below).mono ?_; rintro e w31 ⟨rfl, hb⟩; replace EE := Lib.hid (EE.out.keep hb); replace ct := EE.out.tab.cell; replace cm := EE.out.man.cell; replace cx := EE.out.tr.cell; clear hb)
                | (go_at_call 32; refine (HFi.out _ EE.out.below).mono ?_; rintro e w32 ⟨rfl, hb⟩; replace EE := Lib.hid (EE.out.keep hb); replace ct := EE.out.tab.cell; replace cm := EE.out.man.cell; replace cx := EE.out.tr.cell; clear hb)
                | (go_at_call 33; refine (HTr.out _).mono ?_; rintro e w33 ⟨rfl, hb⟩; replace EE := Lib.hid (EE.out.keep hb); replace ct := EE.out.tab.cell; replace cm := EE.out.man.cell; replace cx := EE.out.tr.cell; clear hb)
                | (go_at_call 34; refine (HRF.out _ EE.out.below).mono ?_; rintro e w34 ⟨rfl, hb⟩; replace EE := Lib.hid (EE.out.keep hb); replace ct := EE.out.tab.cell; replace cm := EE.out.man.cell; replace cx := EE.out.tr.cell; clear hb)
                | (go_at_call 15; refine (knownLaw_c _).mono ?_; rintro e w15 ⟨rfl, hb⟩; have HB := Lib.hid (nextB EE.out.below hb); clear hb))
              exact bodyPost_ret (results_tmp rfl _ _ _) rfl ⟨rfl, HB.out⟩
            · rw [hf] at HRF
              rw [show fitsF t n dive x = (true, 0) by simp [fitsF, hsh, hdb, hf]] at HFt
              have hg : goodB t n dive x = true := by simp [goodB, hdb, hsh, hf]
              have hrl : t.rs.length = t.pn := by rw [hi.rs.1]; exact hok.np
              have hdl := hd.1
              have l1 : x.xs.length = t.rs.length := by rw [hx.xs.1, hrl]; omega
              have l2 : x.ds.length = dive.length := by rw [hx.ds.1, hd.1]; omega
              have l3 : x.ms.length = dive.length := by rw [hx.ms.1, hd.1]; omega
              have hfit := fitsB_fit hf l1 l2 l3
              have hpn : 1 ≤ t.pn ∧ t.pn ≤ 3 := by
                have h1 := hi.ps.1
                simp only [definedB, tableB, inB, Bool.and_eq_true, decide_eq_true_eq] at hdb
                omega
              have HRn := Lib.hid fun (W : World) (hb : Below w.heap.size w W) => (HRn0.out W hb).mono fun e w' (⟨v, h1, h2, h3⟩ : IsRun W t.pn (runF t n dive x) (errI (goodB t n dive x)) e w') => (show ∃ A' c', e = Ending.returned (.tuple #[.slice A' (n + 1) c', .int .i64 0]) ∧ Ils w' W.heap.size 0 (.slice A' (n + 1) c') t.pn (runT x.xs x.ds x.ms t.pn n) ∧ Below W.heap.size W w' from by
                rw [show runF t n dive x = runT x.xs x.ds x.ms t.pn n by simp [runF, hg]] at h2
                rw [hg] at h1
                obtain ⟨A', c', rfl⟩ := h2.form
                rw [runT_len] at h1 h2
                exact ⟨A', c', h1, h2, h3⟩)
              have HRR := Lib.hid fun (W : World) (hb : Below w.heap.size w W) => (refRun_c x t.rs dive hok.rates hds hfit (by omega) (by omega) (by omega) (by omega) (by omega) (by omega) W (hx.keep hb)).mono fun e w' ⟨v, h1, h2, h3⟩ => (show ∃ A' c', e = Ending.returned (.slice A' (n + 1) c') ∧ Ils w' W.heap.size 0 (.slice A' (n + 1) c') t.pn (runT x.xs x.ds x.ms t.pn n) ∧ Below W.heap.size W w' from by
                rw [hrl, hdl] at h2
                obtain ⟨A', c', rfl⟩ := h2.form
                rw [runT_len] at h1 h2
                exact ⟨A', c', h1, h2, h3⟩)
              have hn4 : n ≤ 4 := by omega
              have HLn := Lib.hid (runT_len x.xs x.ds x.ms t.pn n)
              clear hi hd hx hsm hs hbr htb hdb HRn0 HEr hp1 hp2 hsh hok hds hlen e1 e2 e3 hf hg hrl hdl l1 l2 l3 hfit
              obtain ⟨pA, sA, rA, pn, pc, sn, sc, rn, rc, ps, ss, rs⟩ := t
              obtain ⟨xA, dA, mA, xn, xc, dn, dc, mn, mc, xs, ds, ms⟩ := x
              simp only [Tm.tab, Tm.man, Tr.val] at *
              go_enter Tryz.func7, Tryz.ntmps7
              go_wp2_with (first
                | (go_at_call 26; refine (HSh.out _).mono ?_; rintro e w26 ⟨rfl, hb⟩; have EE := Lib.hid (E0.out.keep hb); have ct := EE.out.tab.cell; have cm := EE.out.man.cell; have cx := EE.out.tr.cell; clear hb)
                | (go_at_call 27; refine (HBr.out _).mono ?_; rintro e w27 ⟨rfl, hb⟩; replace EE := Lib.hid (EE.out.keep hb); replace ct := EE.out.tab.cell; replace cm := EE.out.man.cell; replace cx := EE.out.tr.cell; clear hb)
                | (go_at_call 28; refine (HCk.out _ EE.out.below).mono ?_; rintro e w28 ⟨rfl, hb⟩; replace EE := Lib.hid (EE.out.keep hb); replace ct := EE.out.tab.cell; replace cm := EE.out.man.cell; replace cx := EE.out.tr.cell; clear hb)
                | (go_at_call 29; refine (HFt.out _ EE.out.below).mono ?_; rintro e w29 ⟨rfl, hb⟩; replace EE := Lib.hid (EE.out.keep hb); replace ct := EE.out.tab.cell; replace cm := EE.out.man.cell; replace cx := EE.out.tr.cell; clear hb)
                | (go_at_call 30; refine (HRn.out _ EE.out.below).mono ?_; rintro e w30 ⟨A30, c30, rfl, hl30, hb⟩; replace EE := Lib.hid (EE.out.keep hb); have HL := Lib.hid hl30; clear hl30; replace ct := EE.out.tab.cell; replace cm := EE.out.man.cell; replace cx := EE.out.tr.cell; clear hb)
                | (go_at_call 31; refine (HTb.out _ EE.out.below).mono ?_; rintro e w31 ⟨rfl, hb⟩; replace EE := Lib.hid (EE.out.keep hb); replace HL := Lib.hid (HL.out.keep hb); replace ct := EE.out.tab.cell; replace cm := EE.out.man.cell; replace cx := EE.out.tr.cell; clear hb)
                | (go_at_call 32; refine (HFi.out _ EE.out.below).mono ?_; rintro e w32 ⟨rfl, hb⟩; replace EE := Lib.hid (EE.out.keep hb); replace HL := Lib.hid (HL.out.keep hb); replace ct := EE.out.tab.cell; replace cm := EE.out.man.cell; replace cx := EE.out.tr.cell; clear hb)
                | (go_at_call 33; refine (HTr.out _).mono ?_; rintro e w33 ⟨rfl, hb⟩; replace EE := Lib.hid (EE.out.keep hb); replace HL := Lib.hid (HL.out.keep hb); replace ct := EE.out.tab.cell; replace cm := EE.out.man.cell; replace cx := EE.out.tr.cell; clear hb)
                | (go_at_call 34; refine (HRF.out _ EE.out.below).mono ?_; rintro e w34 ⟨rfl, hb⟩; replace EE := Lib.hid (EE.out.keep hb); replace HL := Lib.hid (HL.out.keep hb); replace ct := EE.out.tab.cell; replace cm := EE.out.man.cell; replace cx := EE.out.tr.cell; clear hb)
                | (go_at_call 36; refine (HRR.out _ EE.out.below).mono ?_; rintro e w36 ⟨A36, c36, rfl, hl36, hb⟩; replace EE := Lib.hid (EE.out.keep hb); replace HL := Lib.hid (HL.out.keep hb); have HL2 := Lib.hid hl36; clear hl36; replace ct := EE.out.tab.cell; replace cm := EE.out.man.cell; replace cx := EE.out.tr.cell; clear hb)
                | (go_at_call 35; refine (sameAll_c A30 A36 (n + 1) c30 c36 _ _ 0 0 _ _ (by omega) (by omega) HLn.out _ HL.out HL2.out).mono ?_; rintro e w35 ⟨rfl, hb⟩; replace EE := Lib.hid (EE.out.keep hb); replace ct := EE.out.tab.cell; replace cm := EE.out.man.cell; replace cx := EE.out.tr.cell; clear hb)
                | (go_at_call 15; refine (knownLaw_c _).mono ?_; rintro e w15 ⟨rfl, hb⟩; have HB := Lib.hid (nextB EE.out.below hb); clear hb))
              exact bodyPost_ret (results_tmp rfl _ _ _) rfl ⟨rfl, HB.out⟩
end Go.Proofs
namespace Go.Proofs.YtahochgbkhpefaaGreatDoor.gasRuns
open Go.ChangeShapes Go.WideShapes Go.ChangeAt Go.RowKit Go.Proofs

theorem own : ownKnob Tryz.prog.godebug = none := by kernel_rfl
theorem laidOut : laidOutB Tryz.prog = true := by kernel_rfl
theorem door_met (os : Os) (args : Array Value) : laidMetH Tryz.prog Rows.gasRunsRow.laid ((World.doorLaid Tryz.prog 400 os).forCall (fun _ _ => 0) ⟨#[], args, []⟩).memory :=
  laidMetH_of_parts3 (fuel := 8) (laidMet_of_run' 8 (by kernel_rfl) (by kernel_rfl)) (by kernel_rfl) (by kernel_rfl)

set_option maxRecDepth 100000 in
theorem lifted (os : Os) (started : os.Started) (H : Type) (enc : TypeId × Value → H) :
    ReturnsInHanded {} Tryz.checked os 7 .any (fun w args => (Rows.gasRunsSpec.pre enc Tryz.prog Tryz.f7 [] false w args ∧ laidMetH Tryz.prog Rows.gasRunsRow.laid w) ∧ sizedMet enc Tryz.prog Tryz.f7 (OpenSpec.ofChange Rows.gasRunsSpec) false w args)
      (Rows.gasRunsSpec.post enc Tryz.prog Tryz.f7 false true false false) := by
  refine returnsInHanded_of_change_and (C := Tryz.checked) (X := fun w _ => laidMetH Tryz.prog Rows.gasRunsRow.laid w) (fun _ _ _ hh h => h.of_heap hh) own started (by kernel_rfl) Tryz.func7
    (ChangeSpec.witness_shaped (enc := enc) (C := Tryz.checked) (os := os) (X := fun w _ => laidMetH Tryz.prog Rows.gasRunsRow.laid w) false (World.doorLaid Tryz.prog 400 os) #[.agg #[.slice none 0 0, .slice none 0 0], .agg #[.slice none 0 0], .slice none 0 0, .agg #[.slice none 0 0, .slice none 0 0, .slice none 0 0]] 8 rfl (World.shaped_of_RefB (by kernel_rfl) (by kernel_rfl)) (by kernel_rfl) (by kernel_rfl) (by kernel_rfl) (door_met os _)) ?_
  intro W base args ds gs before hval0 hW _ _ hL _
  have hval : ∀ (j : Nat) t v, Tryz.f7.params[j]? = some t → args[j]? = some v → Value.okWide Tryz.prog W .any base t v := hval0
  have hW' := hW
  obtain ⟨p, q, hA0, hV, rfl, hfz, hnd⟩ := hW
  have hA : DataW.TrodAll enc Tryz.prog W 0 (fun _ => true) true Tryz.f7.params.toList args.toList ds p := hA0
  rw [Tryz.params7] at hA hval
  obtain ⟨v0, vs0, d0, ds0, p0, q0, hargs, rfl, rfl, h0, r0⟩ := trodAll_cons hA
  obtain ⟨v1, vs1, d1, ds1, p1, q1, rfl, rfl, rfl, h1, r1⟩ := trodAll_cons r0
  obtain ⟨v2, vs2, d2, ds2, p2, q2, rfl, rfl, rfl, h2, r2⟩ := trodAll_cons r1
  obtain ⟨v3, vs3, d3, ds3, p3, q3, rfl, rfl, rfl, h3, r3⟩ := trodAll_cons r2
  obtain ⟨rfl, rfl, rfl⟩ := trodAll_nil r3
  obtain rfl : args = #[v0, v1, v2, v3] := by cases args; simp_all
  obtain ⟨rfl, rfl⟩ := trodVars_none hV
  have k0 := h0
  have lt0 : ∀ x ∈ p0, x.block < W.heap.size := by obtain ⟨m, hm⟩ := k0; exact DataW.trod_lt m _ _ _ hm
  have u0 := hval 0 50 v0 rfl rfl
  obtain ⟨pA, pn, pc, ps, sA, sn, sc, ss, rfl, hP, hS⟩ := arg_table u0 h0
  have k1 := h1
  have lt1 : ∀ x ∈ p1, x.block < W.heap.size := by obtain ⟨m, hm⟩ := k1; exact DataW.trod_lt m _ _ _ hm
  have u1 := hval 1 53 v1 rfl rfl
  obtain ⟨rA, rn, rc, rs, rfl, hR⟩ := arg_man u1 h1
  have k2 := h2
  have lt2 : ∀ x ∈ p2, x.block < W.heap.size := by obtain ⟨m, hm⟩ := k2; exact DataW.trod_lt m _ _ _ hm
  have u2 := hval 2 54 v2 rfl rfl
  obtain ⟨A2, n2, c2, l2, rfl, hd2, hc2, hm2, hA2⟩ := arg_dive u2 h2
  have k3 := h3
  have lt3 : ∀ x ∈ p3, x.block < W.heap.size := by obtain ⟨m, hm⟩ := k3; exact DataW.trod_lt m _ _ _ hm
  have u3 := hval 3 56 v3 rfl rfl
  obtain ⟨xA, xn, xc, xs, yA, yn, yc, ys, zA, zn, zc, zs, rfl, hX, hY, hZ⟩ := arg_truth u3 h3
  clear hA0 hval0
  simp only [List.append_nil] at hW'
  refine (gasRuns_walk ⟨pA, sA, rA, pn, pc, sn, sc, rn, rc, ps, ss, rs⟩ A2 n2 c2 l2 ⟨xA, yA, zA, xn, xc, yn, yc, zn, zc, xs, ys, zs⟩ W ⟨hP, hS, hR⟩ hd2 ⟨hX, hY, hZ⟩).mono fun e W' ⟨he, bel⟩ => ?_
  subst he
  exact ⟨_, rfl, _, _, _, [], _, [], hW', trodAll_mk1 (shut_bool Tryz.underlying4 _), (trodAll_cons_mk (Below.trod laidOut (by kernel_rfl) (of_decide_eq_true (by kernel_rfl)) k0 bel lt0) (trodAll_cons_mk (Below.trod laidOut (by kernel_rfl) (of_decide_eq_true (by kernel_rfl)) k1 bel lt1) (trodAll_cons_mk (Below.trod laidOut (by kernel_rfl) (of_decide_eq_true (by kernel_rfl)) k2 bel lt2) (trodAll_cons_mk (Below.trod laidOut (by kernel_rfl) (of_decide_eq_true (by kernel_rfl)) k3 bel lt3) trodAll_mk0)))), rfl, bel.frame _, fun h => by cases h⟩

theorem row_holds : Rows.GasRunsSaid :=
  OpenClaim.holds_of_wide 7 Tryz.f7 rfl rfl rfl rfl rfl rfl rfl ⟨rfl, rfl, rfl, rfl, rfl⟩ rfl rfl rfl rfl rfl (by kernel_rfl) Tryz.func7 (by kernel_rfl)
    (of_decide_eq_true (by kernel_rfl)) (by unfold Func.isWrapper; first | (rw [if_pos (by decide +kernel)]; kernel_rfl) | (rw [if_neg (by decide +kernel)]; exact ⟨rfl, rfl⟩))
    (fun os started H enc _ => lifted os started H enc)

theorem gasRuns_holds : Rows.GasRunsCardSaid :=
  Claim7.holds_tied_plain_at .later [] [.data, .data, .data] true (true, "7950fa0371113510b48b1005210e74e0fffa460a27dcdf5d658d223fe2172657") true
    row_holds (fun _ h => by cases h) (by kernel_rfl) (fun _ h => by cases h) gasRuns_row_tie rfl ⟨rfl, rfl⟩ (by kernel_rfl) rfl
    (fun f fn hf hfn => by
      obtain rfl : f = 7 := Option.some.inj ((show Tryz.prog.funcNamed "bathyal/bathyallaw02.GasRuns" = some 7 by kernel_rfl).symm.trans hf) |>.symm
      obtain rfl : fn = Tryz.f7 := (Option.some.inj (Tryz.func7.symm.trans hfn)).symm
      exact ⟨by kernel_rfl, fun j t ht => by
        rw [Tryz.params7] at ht
        have hm : t ∈ [50, 53, 54, 56] := by simpa using Array.mem_of_getElem? ht
        have hall : ([50, 53, 54, 56].all fun u => !Tryz.prog.wantsStandIn u) = true := by kernel_rfl
        exact (show Tryz.prog.wantsStandIn t = false by simpa using List.all_eq_true.1 hall t hm)⟩)
    (by kernel_rfl)
#print axioms gasRuns_holds
end Go.Proofs.YtahochgbkhpefaaGreatDoor.gasRuns
