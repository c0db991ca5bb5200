/-
  The statement GasWaits holds for every input: the law returns true and what came in reads as before.
-/
import Derived.Test.YtahochgbkhpefabGreatDoorP14
import Derived.Test.YtahochgbkhpefabGreatDoorP11
import Derived.Test.YtahochgbkhpefabGreatDoorRows
import Derived.Test.YtahochgbkhpefabGreatDoorTie
import Derived.Test.YtahochgbkhpefabGreatDoorCards
import Derived.Test.YtahochgbkhpefabGreatDoorChecked
import Derived.ProofKit
import Derived.OpenShut
import Derived.LaidMore
import Derived.Stop.Joined
import Derived.SevenTiedAt
import Derived.Carry
namespace Go.Proofs
open Go.RowKit Go.Shelf Gas
attribute [local go_sem ↓] Go.wp_at_zero Go.wp_at_succ

/-- The boxes of a table and a man, as a function lays them first. -/
structure Bn (w : World) (t : Tm) (W : World) : Prop where
  below : Below w.heap.size w W
  tab : Has W w.heap.size 25 #[.slice t.pA t.pn t.pc, .slice t.sA t.sn t.sc]
  man : Has W (w.heap.size + 1) 28 #[.slice t.rA t.rn t.rc]
theorem Bn.keep {w W W' : World} {t : Tm} (h : Bn w t W) (hb : Below W.heap.size W W') : Bn w t W' := ⟨nextB h.below hb, h.tab.after hb, h.man.after hb⟩
theorem Bn.start (w : World) (t : Tm) : Bn w t ((w.alloc (.cells #[.slice t.pA t.pn t.pc, .slice t.sA t.sn t.sc] 25)).alloc (.cells #[.slice t.rA t.rn t.rc] 28)) :=
  ⟨newB (newB (Below.refl _ _) _) _, (Has.new w 25 _).alloc _, Has.new' _ 28 _ (by simp)⟩
/-- The first number that something is true of, or -1. -/
def firstI (p : Int → Bool) (n : Nat) : Int := (firstFrom p n 0).getD (-1)
theorem firstFrom_at {p : Int → Bool} {k : Int} : ∀ (n : Nat) (d : Int), d ≤ k → k < d + n → (∀ j, d ≤ j → j < k → p j = false) → p k = true → firstFrom p n d = some k
  | 0, d, h1, h2, _, _ => by omega
  | n + 1, d, h1, h2, h3, h4 => by
    unfold firstFrom
    rcases Int.lt_or_eq_of_le h1 with h | rfl
    · rw [if_neg (by rw [h3 d (Int.le_refl d) h]; simp)]
      exact firstFrom_at n (d + 1) (by omega) (by omega) (fun j a b => h3 j (by omega) b) h4
    · rw [if_pos h4]
theorem firstFrom_nil {p : Int → Bool} : ∀ (n : Nat) (d : Int), (∀ j, d ≤ j → j < d + n → p j = false) → firstFrom p n d = none
  | 0, d, _ => rfl
  | n + 1, d, h => by
    unfold firstFrom
    rw [if_neg (by rw [h d (Int.le_refl d) (by omega)]; simp)]
    exact firstFrom_nil n (d + 1) (fun j a b => h j (by omega) (by omega))

set_option maxHeartbeats 2000000 in
set_option maxRecDepth 50000 in
theorem refWait_c (t : Tm) (ht : t.Ok) (hrn : t.rs.length ≤ 100) (A A2 : Option Addr) (n c n2 c2 : Nat) (dive next : List St) (hA : A = none → c = 0) (hA2 : A2 = none → c2 = 0) (hn : n ≤ 100) (hn2 : n2 ≤ 100) (hds : ∀ s ∈ dive, SOk s) (hds2 : ∀ s ∈ next, SOk s) (w : World) (hi : t.In w) (hd : SlOf St.cs 4 w A n dive) (hd2 : SlOf St.cs 4 w A2 n2 next) :
    Calls Tryz.prog 28 #[t.tab, t.man, .slice A n c, .slice A2 n2 c2] w fun e w' => e = .returned (.int .i64 (firstI (waitP t.ps t.rs (folS t.ps t.rs (h0, true) dive) next) 241)) ∧ Below w.heap.size w w' := by
  have hpl : t.ps.length = t.rs.length := by rw [hi.ps.1, hi.rs.1]; exact ht.np.symm
  have HSu := Lib.hid fun (d : Int) (hdd : 0 ≤ d ∧ d ≤ 240) (W : World) (hb : Below w.heap.size w W) (g0 cap : Nat) (hsl : SlOf St.cs 4 W (some ⟨g0, 0, none⟩) (n + 1 + n2) ((dive ++ [stayS 0 0 d]) ++ next)) =>
    (show Calls Tryz.prog 27 #[t.tab, t.man, .slice (some ⟨g0, 0, none⟩) (n + 1 + n2) cap] W fun e w' => e = .returned (.bool (waitP t.ps t.rs (folS t.ps t.rs (h0, true) dive) next d)) ∧ Below W.heap.size W w' by
      have := refSurely_c t ht (some ⟨g0, 0, none⟩) (n + 1 + n2) cap ((dive ++ [stayS 0 0 d]) ++ next) (by omega) hrn (fun s hs => by
        rcases List.mem_append.1 hs with hs | hs
        · rcases List.mem_append.1 hs with hs | hs
          · exact hds s hs
          · simp only [List.mem_singleton] at hs
            subst hs
            exact ⟨by simp [stayS], by simp [stayS], by simp only [stayS]; omega⟩
        · exact hds2 s hs) W (hi.keep hb) hsl
      rw [← keptF_worR ht.rates hpl] at this
      rw [show keptF t (h0, true) ((dive ++ [stayS 0 0 d]) ++ next) = waitP t.ps t.rs (folS t.ps t.rs (h0, true) dive) next d by
        unfold keptF waitP; rw [folS_app, folS_app]; rfl] at this
      exact this)
  have HRe := Lib.hid fun (x : Int) (W : World) (hb : Below w.heap.size w W) => rested_c A A2 n c n2 c2 dive next hA hA2 (by omega) (by omega) x W (hd.keep hb) (hd2.keep hb)
  have E0 := Lib.hid (Bn.start w t)
  clear hi ht hrn hpl hd hd2 hds hds2 hA hA2
  generalize waitP t.ps t.rs (folS t.ps t.rs (h0, true) dive) next = P at *
  obtain ⟨pA, sA, rA, pn, pc, sn, sc, rn, rc, ps, ss, rs⟩ := t
  simp only [Tm.tab, Tm.man] at *
  go_enter Tryz.func28, Tryz.ntmps28
  go_wp2
  go_loopw [9] (fun v wr => ∃ k : Nat, k ≤ 241 ∧ v = .int .i64 (k : Int) ∧ Bn w ⟨pA, sA, rA, pn, pc, sn, sc, rn, rc, ps, ss, rs⟩ wr ∧ ∀ j : Int, 0 ≤ j → j < k → P j = false) (fun v _ => (241 - intOf v).toNat)
  case atStart => exact ⟨0, by omega, rfl, E0.out, fun j h1 h2 => by omega⟩
  case round =>
    obtain ⟨k, hk, rfl, hE, hP⟩ := hrel
    have EE := Lib.hid hE; have HP := Lib.hid hP
    clear hE hP
    by_cases hk41 : k = 241
    · subst hk41
      go_wp2
      exact bodyPost_ret (results_tmp rfl _ _ _) rfl ⟨by unfold firstI; rw [firstFrom_nil 241 0 fun j a b => HP.out j a (by omega)]; rfl, EE.out.below⟩
    · have hk40 : k ≤ 240 := by omega
      have HS1 := Lib.hid (HSu.out k (by omega))
      go_wp2
      apply wp_loose 7 (.v (.agg #[.slice pA pn pc, .slice sA sn sc]) :: .v (.agg #[.slice rA rn rc]) :: .v (.slice A n c) :: .v (.int .i64 (k : Int)) :: .v (.slice A2 n2 c2) :: .r (fun v w' => ∃ g0 cap, v = .slice (some ⟨g0, 0, none⟩) (n + 1 + n2) cap ∧ SlOf St.cs 4 w' (some ⟨g0, 0, none⟩) (n + 1 + n2) ((dive ++ [stayS 0 0 k]) ++ next)) :: .v (.bool (P k)) :: []) (by kernel_rfl) (by kernel_rfl) (by kernel_rfl) (by decide) rfl
      intro K hK
      refine OblS.row rfl 25 (.tmp 4) rfl w.heap.size (by kernel_rfl) 25 _ _ EE.out.tab Tryz.underlying25 rfl (by kernel_rfl) ?_
      refine OblS.row rfl 28 (.tmp 5) rfl (w.heap.size + 1) (by kernel_rfl) 28 _ _ EE.out.man Tryz.underlying28 rfl (by kernel_rfl) ?_
      iterate 3 refine OblS.val (by kernel_rfl) (fun w' _ _ => (by kernel_rfl)) ?_
      refine OblS.callR 29 (by rintro v x y ⟨g0, cap, e, h⟩ hb; exact ⟨g0, cap, e, h.keep hb⟩) (by kernel_rfl) (fun w' hb _ => ⟨#[.slice A n c, .int .i64 (k : Int), .slice A2 n2 c2], (by kernel_rfl), (HRe.out _ w' (nextB EE.out.below hb)).mono fun e x ⟨g0, cap, h1, h2, h3⟩ => ⟨_, h1, ⟨g0, cap, rfl, h2⟩, h3⟩⟩) ?_
      intro vs
      refine OblS.call 27 (by kernel_rfl) (fun w' hb hH => ?_) ?_
      · obtain ⟨g0, cap, rfl, hsl⟩ := hH _ (List.mem_cons_self ..) (by kernel_rfl)
        exact ⟨#[.agg #[.slice pA pn pc, .slice sA sn sc], .agg #[.slice rA rn rc], .slice (some ⟨g0, 0, none⟩) (n + 1 + n2) cap], (by kernel_rfl), HS1.out w' (nextB EE.out.below hb) g0 cap hsl⟩
      apply OblS.nil
      apply hK
      intro w6 hb hH
      have E6 := Lib.hid (EE.out.keep hb)
      clear hH hK K hb
      simp only [Act.put, List.setIfInBounds_toArray, List.set_cons_zero, List.set_cons_succ, List.drop_succ_cons, List.drop_zero]
      cases hpk : P k
      · have HPK := Lib.hid hpk
        clear hpk
        go_wp2
        go_roundw
        case rel => exact ⟨k + 1, by omega, by go_num, E6.out, fun j h1 h2 => by
          rcases Int.lt_or_le j k with h | h
          · exact HP.out j h1 h
          · rw [show j = k by omega]; exact HPK.out⟩
        case measure => simp [intOf]; omega
      · have HPK := Lib.hid hpk
        clear hpk
        go_wp2
        exact bodyPost_ret (results_tmp rfl _ _ _) rfl ⟨by unfold firstI; rw [firstFrom_at 241 0 (by omega) (by omega) (fun j a b => HP.out j a b) HPK.out]; rfl, E6.out.below⟩

set_option maxHeartbeats 2000000 in
set_option maxRecDepth 50000 in
theorem gasWaits_walk (t : Tm) (A A2 : Option Addr) (n c n2 c2 : Nat) (dive next : List St) (hA : A = none → c = 0) (hA2 : A2 = none → c2 = 0) (w : World) (hi : t.In w) (hd : SlOf St.cs 4 w A n dive) (hd2 : SlOf St.cs 4 w A2 n2 next) :
    Calls Tryz.prog 6 #[t.tab, t.man, .slice A n c, .slice A2 n2 c2] w fun e w' => e = .returned (.bool true) ∧ Below w.heap.size w w' := by
  have HSh := Lib.hid fun (W : World) => short_c t A n c W
  have E0 := Lib.hid (Bn.start w t)
  cases hs : shortB t n
  · rw [hs] at HSh
    clear hs hi hd hd2 hA hA2
    obtain ⟨pA, sA, rA, pn, pc, sn, sc, rn, rc, ps, ss, rs⟩ := t
    simp only [Tm.tab, Tm.man] at *
    go_enter Tryz.func6, Tryz.ntmps6
    go_wp2_with (first
      | (go_at_call 13; refine (HSh.out _).mono ?_; rintro e w13 ⟨rfl, hb⟩; have EE := Lib.hid (E0.out.keep hb); have ct := EE.out.tab.cell; have cm := EE.out.man.cell; clear hb)
      | (go_at_call 15; refine (knownLaw_c _).mono ?_; rintro e w15 ⟨rfl, hb⟩; have HB := Lib.hid (nextB EE.out.below hb); clear hb))
    exact bodyPost_ret (results_tmp rfl _ _ _) rfl ⟨rfl, HB.out⟩
  · rw [hs] at HSh
    obtain ⟨hsm, hn7⟩ := short_small hs
    have hrn : t.rs.length ≤ 100 := by
      have := hi.rs.1
      simp only [shortB, decide_eq_true_eq] at hs
      omega
    by_cases h7 : n2 ≤ 7
    · have h7b : ¬ 7 < n2 := by omega
      have HFi := Lib.hid fun (W : World) (hb : Below w.heap.size w W) => fine_c t hsm A n c dive (by omega) W (hi.keep hb) (hd.keep hb)
      have HDv := Lib.hid fun (W : World) (hb : Below w.heap.size w W) => refDive_c A2 n2 c2 next (by omega) W (hd2.keep hb)
      have HWt := Lib.hid fun (W : World) (hb : Below w.heap.size w W) => Wait_c t hsm A A2 n c n2 c2 dive next (by omega) (by omega) W (hi.keep hb) (hd.keep hb) (hd2.keep hb)
      have hdl := hd.1
      have hdl2 := hd2.1
      cases hdb : definedB t.ps t.ss t.rs dive 0
      · rw [hdb] at HFi
        have hd1 : definedB t.ps t.ss t.rs dive (1 + (next.length : Int)) = false := by
          cases h : definedB t.ps t.ss t.rs dive (1 + (next.length : Int))
          · rfl
          · simp only [definedB, diveB, Bool.and_eq_true, decide_eq_true_eq] at h
            have : definedB t.ps t.ss t.rs dive 0 = true := by
              simp only [definedB, diveB, Bool.and_eq_true, decide_eq_true_eq]
              exact ⟨h.1, by omega, h.2.2⟩
            rw [hdb] at this; cases this
        rw [show waitF t dive next = (0, 2) by simp [waitF, hd1]] at HWt
        clear hs hi hd hd2 hA hA2 hsm hdb hd1 hrn hdl hdl2
        obtain ⟨pA, sA, rA, pn, pc, sn, sc, rn, rc, ps, ss, rs⟩ := t
        simp only [Tm.tab, Tm.man] at *
        go_enter Tryz.func6, Tryz.ntmps6
        go_wp2_with (first
          | (go_at_call 13; refine (HSh.out _).mono ?_; rintro e w13 ⟨rfl, hb⟩; have EE := Lib.hid (E0.out.keep hb); have ct := EE.out.tab.cell; have cm := EE.out.man.cell; clear hb)
          | (go_at_call 25; refine (HWt.out _ EE.out.below).mono ?_; rintro e w25 ⟨rfl, hb⟩; replace EE := Lib.hid (EE.out.keep hb); replace ct := EE.out.tab.cell; replace cm := EE.out.man.cell; clear hb)
          | (go_at_call 14; refine (HFi.out _ EE.out.below).mono ?_; rintro e w14 ⟨rfl, hb⟩; replace EE := Lib.hid (EE.out.keep hb); replace ct := EE.out.tab.cell; replace cm := EE.out.man.cell; clear hb)
          | (go_at_call 15; refine (knownLaw_c _).mono ?_; rintro e w15 ⟨rfl, hb⟩; have HB := Lib.hid (nextB EE.out.below hb); clear hb))
        exact bodyPost_ret (results_tmp rfl _ _ _) rfl ⟨rfl, HB.out⟩
      · rw [hdb] at HFi
        cases hnx : diveB next 0
        · rw [hnx] at HDv
          rw [show waitF t dive next = (0, 2) by simp [waitF, hnx]] at HWt
          clear hs hi hd hd2 hA hA2 hsm hdb hnx hrn hdl hdl2
          obtain ⟨pA, sA, rA, pn, pc, sn, sc, rn, rc, ps, ss, rs⟩ := t
          simp only [Tm.tab, Tm.man] at *
          go_enter Tryz.func6, Tryz.ntmps6
          go_wp2_with (first
            | (go_at_call 13; refine (HSh.out _).mono ?_; rintro e w13 ⟨rfl, hb⟩; have EE := Lib.hid (E0.out.keep hb); have ct := EE.out.tab.cell; have cm := EE.out.man.cell; clear hb)
            | (go_at_call 25; refine (HWt.out _ EE.out.below).mono ?_; rintro e w25 ⟨rfl, hb⟩; replace EE := Lib.hid (EE.out.keep hb); replace ct := EE.out.tab.cell; replace cm := EE.out.man.cell; clear hb)
            | (go_at_call 14; refine (HFi.out _ EE.out.below).mono ?_; rintro e w14 ⟨rfl, hb⟩; replace EE := Lib.hid (EE.out.keep hb); replace ct := EE.out.tab.cell; replace cm := EE.out.man.cell; clear hb)
            | (go_at_call 26; refine (HDv.out _ EE.out.below).mono ?_; rintro e w26 ⟨rfl, hb⟩; replace EE := Lib.hid (EE.out.keep hb); replace ct := EE.out.tab.cell; replace cm := EE.out.man.cell; clear hb)
            | (go_at_call 15; refine (knownLaw_c _).mono ?_; rintro e w15 ⟨rfl, hb⟩; have HB := Lib.hid (nextB EE.out.below hb); clear hb))
          exact bodyPost_ret (results_tmp rfl _ _ _) rfl ⟨rfl, HB.out⟩
        · rw [hnx] at HDv
          have hw0 : IntKind.i64.wrap ((n : Int) + n2) = (n : Int) + n2 := wI (by omega) (by omega)
          by_cases hn4 : n + n2 < 4
          · have hn4b : ¬ 4 ≤ n + n2 := by omega
            have hn4c : ¬ (4 : Int) ≤ (n : Int) + n2 := by omega
            obtain ⟨hok, hds, _⟩ := defined_ok hsm hi hdb
            have hpl : t.ps.length = t.rs.length := by rw [hi.ps.1, hi.rs.1]; exact hok.np.symm
            have HSu := Lib.hid fun (W : World) (hb : Below w.heap.size w W) => refSurely_c t hok A n c dive (by omega) hrn hds W (hi.keep hb) (hd.keep hb)
            rw [← keptF_worR hok.rates hpl] at HSu
            have HRw := Lib.hid fun (W : World) (hb : Below w.heap.size w W) => refWait_c t hok hrn A A2 n c n2 c2 dive next hA hA2 (by omega) (by omega) hds (diveB_ok hnx) W (hi.keep hb) (hd.keep hb) (hd2.keep hb)
            have e : waitF t dive next = if keptF t (h0, true) dive then optV (firstFrom (waitP t.ps t.rs (folS t.ps t.rs (h0, true) dive) next) 241 0) else (0, 7) := by
              unfold waitF
              rw [if_pos (by rw [hnx, defined_room hdb (by omega)]; rfl)]
              rfl
            rw [e] at HWt
            clear hs hi hd hd2 hA hA2 hsm hdb hnx hrn hdl hdl2 hok hds hpl e
            cases hk : keptF t (h0, true) dive
            · rw [hk] at HSu HWt
              rw [show (if false = true then optV (firstFrom (waitP t.ps t.rs (folS t.ps t.rs (h0, true) dive) next) 241 0) else (0, 7)) = (0, 7) from rfl] at HWt
              clear hk HRw
              obtain ⟨pA, sA, rA, pn, pc, sn, sc, rn, rc, ps, ss, rs⟩ := t
              simp only [Tm.tab, Tm.man] at *
              go_enter Tryz.func6, Tryz.ntmps6
              go_wp2_with (first
                | (go_at_call 13; refine (HSh.out _).mono ?_; rintro e w13 ⟨rfl, hb⟩; have EE := Lib.hid (E0.out.keep hb); have ct := EE.out.tab.cell; have cm := EE.out.man.cell; clear hb)
                | (go_at_call 25; refine (HWt.out _ EE.out.below).mono ?_; rintro e w25 ⟨rfl, hb⟩; replace EE := Lib.hid (EE.out.keep hb); replace ct := EE.out.tab.cell; replace cm := EE.out.man.cell; clear hb)
                | (go_at_call 14; refine (HFi.out _ EE.out.below).mono ?_; rintro e w14 ⟨rfl, hb⟩; replace EE := Lib.hid (EE.out.keep hb); replace ct := EE.out.tab.cell; replace cm := EE.out.man.cell; clear hb)
                | (go_at_call 26; refine (HDv.out _ EE.out.below).mono ?_; rintro e w26 ⟨rfl, hb⟩; replace EE := Lib.hid (EE.out.keep hb); replace ct := EE.out.tab.cell; replace cm := EE.out.man.cell; clear hb)
                | (go_at_call 27; refine (HSu.out _ EE.out.below).mono ?_; rintro e w27 ⟨rfl, hb⟩; replace EE := Lib.hid (EE.out.keep hb); replace ct := EE.out.tab.cell; replace cm := EE.out.man.cell; clear hb)
                | (go_at_call 15; refine (knownLaw_c _).mono ?_; rintro e w15 ⟨rfl, hb⟩; have HB := Lib.hid (nextB EE.out.below hb); clear hb))
              exact bodyPost_ret (results_tmp rfl _ _ _) rfl ⟨rfl, HB.out⟩
            · rw [hk] at HSu HWt
              rw [show (if true = true then optV (firstFrom (waitP t.ps t.rs (folS t.ps t.rs (h0, true) dive) next) 241 0) else (0, 7)) = optV (firstFrom (waitP t.ps t.rs (folS t.ps t.rs (h0, true) dive) next) 241 0) from rfl] at HWt
              clear hk
              unfold firstI at HRw
              cases hf : firstFrom (waitP t.ps t.rs (folS t.ps t.rs (h0, true) dive) next) 241 0 with
              | none =>
                rw [hf] at HWt HRw
                rw [show (none : Option Int).getD (-1) = -1 from rfl] at HRw
                rw [show optV none = (0, 5) from rfl] at HWt
                clear hf
                obtain ⟨pA, sA, rA, pn, pc, sn, sc, rn, rc, ps, ss, rs⟩ := t
                simp only [Tm.tab, Tm.man] at *
                go_enter Tryz.func6, Tryz.ntmps6
                go_wp2_with (first
                  | (go_at_call 13; refine (HSh.out _).mono ?_; rintro e w13 ⟨rfl, hb⟩; have EE := Lib.hid (E0.out.keep hb); have ct := EE.out.tab.cell; have cm := EE.out.man.cell; clear hb)
                  | (go_at_call 25; refine (HWt.out _ EE.out.below).mono ?_; rintro e w25 ⟨rfl, hb⟩; replace EE := Lib.hid (EE.out.keep hb); replace ct := EE.out.tab.cell; replace cm := EE.out.man.cell; clear hb)
                  | (go_at_call 14; refine (HFi.out _ EE.out.below).mono ?_; rintro e w14 ⟨rfl, hb⟩; replace EE := Lib.hid (EE.out.keep hb); replace ct := EE.out.tab.cell; replace cm := EE.out.man.cell; clear hb)
                  | (go_at_call 26; refine (HDv.out _ EE.out.below).mono ?_; rintro e w26 ⟨rfl, hb⟩; replace EE := Lib.hid (EE.out.keep hb); replace ct := EE.out.tab.cell; replace cm := EE.out.man.cell; clear hb)
                  | (go_at_call 27; refine (HSu.out _ EE.out.below).mono ?_; rintro e w27 ⟨rfl, hb⟩; replace EE := Lib.hid (EE.out.keep hb); replace ct := EE.out.tab.cell; replace cm := EE.out.man.cell; clear hb)
                  | (go_at_call 28; refine (HRw.out _ EE.out.below).mono ?_; rintro e w28 ⟨rfl, hb⟩; replace EE := Lib.hid (EE.out.keep hb); replace ct := EE.out.tab.cell; replace cm := EE.out.man.cell; clear hb)
                  | (go_at_call 15; refine (knownLaw_c _).mono ?_; rintro e w15 ⟨rfl, hb⟩; have HB := Lib.hid (nextB EE.out.below hb); clear hb))
                exact bodyPost_ret (results_tmp rfl _ _ _) rfl ⟨rfl, HB.out⟩
              | some m =>
                obtain ⟨m1, m2, _, _⟩ := firstFrom_some _ _ _ _ hf
                rw [hf] at HWt HRw
                rw [show (some m).getD (-1) = m from rfl] at HRw
                rw [show optV (some m) = (m, 0) from rfl] at HWt
                have hx1 : ¬ m < 0 := by omega
                clear hf
                obtain ⟨pA, sA, rA, pn, pc, sn, sc, rn, rc, ps, ss, rs⟩ := t
                simp only [Tm.tab, Tm.man] at *
                go_enter Tryz.func6, Tryz.ntmps6
                go_wp2_with (first
                  | (go_at_call 13; refine (HSh.out _).mono ?_; rintro e w13 ⟨rfl, hb⟩; have EE := Lib.hid (E0.out.keep hb); have ct := EE.out.tab.cell; have cm := EE.out.man.cell; clear hb)
                  | (go_at_call 25; refine (HWt.out _ EE.out.below).mono ?_; rintro e w25 ⟨rfl, hb⟩; replace EE := Lib.hid (EE.out.keep hb); replace ct := EE.out.tab.cell; replace cm := EE.out.man.cell; clear hb)
                  | (go_at_call 14; refine (HFi.out _ EE.out.below).mono ?_; rintro e w14 ⟨rfl, hb⟩; replace EE := Lib.hid (EE.out.keep hb); replace ct := EE.out.tab.cell; replace cm := EE.out.man.cell; clear hb)
                  | (go_at_call 26; refine (HDv.out _ EE.out.below).mono ?_; rintro e w26 ⟨rfl, hb⟩; replace EE := Lib.hid (EE.out.keep hb); replace ct := EE.out.tab.cell; replace cm := EE.out.man.cell; clear hb)
                  | (go_at_call 27; refine (HSu.out _ EE.out.below).mono ?_; rintro e w27 ⟨rfl, hb⟩; replace EE := Lib.hid (EE.out.keep hb); replace ct := EE.out.tab.cell; replace cm := EE.out.man.cell; clear hb)
                  | (go_at_call 28; refine (HRw.out _ EE.out.below).mono ?_; rintro e w28 ⟨rfl, hb⟩; replace EE := Lib.hid (EE.out.keep hb); replace ct := EE.out.tab.cell; replace cm := EE.out.man.cell; clear hb)
                  | (go_at_call 15; refine (knownLaw_c _).mono ?_; rintro e w15 ⟨rfl, hb⟩; have HB := Lib.hid (nextB EE.out.below hb); clear hb))
                exact bodyPost_ret (results_tmp rfl _ _ _) rfl ⟨rfl, HB.out⟩
          · have hn4b : 4 ≤ n + n2 := by omega
            have hn4c : (4 : Int) ≤ (n : Int) + n2 := by omega
            have hd1 : definedB t.ps t.ss t.rs dive (1 + (next.length : Int)) = false := by
              simp only [definedB, diveB]
              rw [decide_eq_false (by omega)]
              simp
            rw [show waitF t dive next = (0, 2) by simp [waitF, hd1]] at HWt
            clear hs hi hd hd2 hA hA2 hsm hdb hnx hd1 hrn hdl hdl2
            obtain ⟨pA, sA, rA, pn, pc, sn, sc, rn, rc, ps, ss, rs⟩ := t
            simp only [Tm.tab, Tm.man] at *
            go_enter Tryz.func6, Tryz.ntmps6
            go_wp2_with (first
              | (go_at_call 13; refine (HSh.out _).mono ?_; rintro e w13 ⟨rfl, hb⟩; have EE := Lib.hid (E0.out.keep hb); have ct := EE.out.tab.cell; have cm := EE.out.man.cell; clear hb)
              | (go_at_call 25; refine (HWt.out _ EE.out.below).mono ?_; rintro e w25 ⟨rfl, hb⟩; replace EE := Lib.hid (EE.out.keep hb); replace ct := EE.out.tab.cell; replace cm := EE.out.man.cell; clear hb)
              | (go_at_call 14; refine (HFi.out _ EE.out.below).mono ?_; rintro e w14 ⟨rfl, hb⟩; replace EE := Lib.hid (EE.out.keep hb); replace ct := EE.out.tab.cell; replace cm := EE.out.man.cell; clear hb)
              | (go_at_call 26; refine (HDv.out _ EE.out.below).mono ?_; rintro e w26 ⟨rfl, hb⟩; replace EE := Lib.hid (EE.out.keep hb); replace ct := EE.out.tab.cell; replace cm := EE.out.man.cell; clear hb)
              | (go_at_call 15; refine (knownLaw_c _).mono ?_; rintro e w15 ⟨rfl, hb⟩; have HB := Lib.hid (nextB EE.out.below hb); clear hb))
            exact bodyPost_ret (results_tmp rfl _ _ _) rfl ⟨rfl, HB.out⟩
    · have h7' : 7 < n2 := by omega
      clear hs hi hd hd2 hA hA2 hsm hrn
      obtain ⟨pA, sA, rA, pn, pc, sn, sc, rn, rc, ps, ss, rs⟩ := t
      simp only [Tm.tab, Tm.man] at *
      go_enter Tryz.func6, Tryz.ntmps6
      go_wp2_with (first
        | (go_at_call 13; refine (HSh.out _).mono ?_; rintro e w13 ⟨rfl, hb⟩; have EE := Lib.hid (E0.out.keep hb); have ct := EE.out.tab.cell; have cm := EE.out.man.cell; clear hb)
        | (go_at_call 15; refine (knownLaw_c _).mono ?_; rintro e w15 ⟨rfl, hb⟩; have HB := Lib.hid (nextB EE.out.below hb); clear hb))
      exact bodyPost_ret (results_tmp rfl _ _ _) rfl ⟨rfl, HB.out⟩
end Go.Proofs
namespace Go.Proofs.YtahochgbkhpefabGreatDoor.gasWaits
open Go.ChangeShapes Go.WideShapes Go.ChangeAt Go.RowKit Go.Proofs

theorem own : ownKnob Tryz.prog.godebug = none := by kernel_rfl
theorem laidOut : laidOutB Tryz.prog = true := by kernel_rfl
theorem door_met (os : Os) (args : Array Value) : laidMetH Tryz.prog Rows.gasWaitsRow.laid ((World.doorLaid Tryz.prog 400 os).forCall (fun _ _ => 0) ⟨#[], args, []⟩).memory :=
  laidMetH_of_parts3 (fuel := 8) (laidMet_of_run' 8 (by kernel_rfl) (by kernel_rfl)) (by kernel_rfl) (by kernel_rfl)

set_option maxRecDepth 100000 in
theorem lifted (os : Os) (started : os.Started) (H : Type) (enc : TypeId × Value → H) :
    ReturnsInHanded {} Tryz.checked os 6 .any (fun w args => (Rows.gasWaitsSpec.pre enc Tryz.prog Tryz.f6 [] false w args ∧ laidMetH Tryz.prog Rows.gasWaitsRow.laid w) ∧ sizedMet enc Tryz.prog Tryz.f6 (OpenSpec.ofChange Rows.gasWaitsSpec) false w args)
      (Rows.gasWaitsSpec.post enc Tryz.prog Tryz.f6 false true false false) := by
  refine returnsInHanded_of_change_and (C := Tryz.checked) (X := fun w _ => laidMetH Tryz.prog Rows.gasWaitsRow.laid w) (fun _ _ _ hh h => h.of_heap hh) own started (by kernel_rfl) Tryz.func6
    (ChangeSpec.witness_shaped (enc := enc) (C := Tryz.checked) (os := os) (X := fun w _ => laidMetH Tryz.prog Rows.gasWaitsRow.laid w) false (World.doorLaid Tryz.prog 400 os) #[.agg #[.slice none 0 0, .slice none 0 0], .agg #[.slice none 0 0], .slice none 0 0, .slice none 0 0] 8 rfl (World.shaped_of_RefB (by kernel_rfl) (by kernel_rfl)) (by kernel_rfl) (by kernel_rfl) (by kernel_rfl) (door_met os _)) ?_
  intro W base args ds gs before hval0 hW _ _ hL _
  have hval : ∀ (j : Nat) t v, Tryz.f6.params[j]? = some t → args[j]? = some v → Value.okWide Tryz.prog W .any base t v := hval0
  have hW' := hW
  obtain ⟨p, q, hA0, hV, rfl, hfz, hnd⟩ := hW
  have hA : DataW.TrodAll enc Tryz.prog W 0 (fun _ => true) true Tryz.f6.params.toList args.toList ds p := hA0
  rw [Tryz.params6] at hA hval
  obtain ⟨v0, vs0, d0, ds0, p0, q0, hargs, rfl, rfl, h0, r0⟩ := trodAll_cons hA
  obtain ⟨v1, vs1, d1, ds1, p1, q1, rfl, rfl, rfl, h1, r1⟩ := trodAll_cons r0
  obtain ⟨v2, vs2, d2, ds2, p2, q2, rfl, rfl, rfl, h2, r2⟩ := trodAll_cons r1
  obtain ⟨v3, vs3, d3, ds3, p3, q3, rfl, rfl, rfl, h3, r3⟩ := trodAll_cons r2
  obtain ⟨rfl, rfl, rfl⟩ := trodAll_nil r3
  obtain rfl : args = #[v0, v1, v2, v3] := by cases args; simp_all
  obtain ⟨rfl, rfl⟩ := trodVars_none hV
  have k0 := h0
  have lt0 : ∀ x ∈ p0, x.block < W.heap.size := by obtain ⟨m, hm⟩ := k0; exact DataW.trod_lt m _ _ _ hm
  have u0 := hval 0 25 v0 rfl rfl
  obtain ⟨pA, pn, pc, ps, sA, sn, sc, ss, rfl, hP, hS⟩ := arg_table u0 h0
  have k1 := h1
  have lt1 : ∀ x ∈ p1, x.block < W.heap.size := by obtain ⟨m, hm⟩ := k1; exact DataW.trod_lt m _ _ _ hm
  have u1 := hval 1 28 v1 rfl rfl
  obtain ⟨rA, rn, rc, rs, rfl, hR⟩ := arg_man u1 h1
  have k2 := h2
  have lt2 : ∀ x ∈ p2, x.block < W.heap.size := by obtain ⟨m, hm⟩ := k2; exact DataW.trod_lt m _ _ _ hm
  have u2 := hval 2 29 v2 rfl rfl
  obtain ⟨A2, n2, c2, l2, rfl, hd2, hc2, hm2, hA2⟩ := arg_dive u2 h2
  have k3 := h3
  have lt3 : ∀ x ∈ p3, x.block < W.heap.size := by obtain ⟨m, hm⟩ := k3; exact DataW.trod_lt m _ _ _ hm
  have u3 := hval 3 29 v3 rfl rfl
  obtain ⟨A3, n3, c3, l3, rfl, hd3, hc3, hm3, hA3⟩ := arg_dive u3 h3
  clear hA0 hval0
  simp only [List.append_nil] at hW'
  refine (gasWaits_walk ⟨pA, sA, rA, pn, pc, sn, sc, rn, rc, ps, ss, rs⟩ A2 A3 n2 c2 n3 c3 l2 l3 hA2 hA3 W ⟨hP, hS, hR⟩ hd2 hd3).mono fun e W' ⟨he, bel⟩ => ?_
  subst he
  exact ⟨_, rfl, _, _, _, [], _, [], hW', trodAll_mk1 (shut_bool Tryz.underlying4 _), (trodAll_cons_mk (Below.trod laidOut (by kernel_rfl) (of_decide_eq_true (by kernel_rfl)) k0 bel lt0) (trodAll_cons_mk (Below.trod laidOut (by kernel_rfl) (of_decide_eq_true (by kernel_rfl)) k1 bel lt1) (trodAll_cons_mk (Below.trod laidOut (by kernel_rfl) (of_decide_eq_true (by kernel_rfl)) k2 bel lt2) (trodAll_cons_mk (Below.trod laidOut (by kernel_rfl) (of_decide_eq_true (by kernel_rfl)) k3 bel lt3) trodAll_mk0)))), rfl, bel.frame _, fun h => by cases h⟩

theorem row_holds : Rows.GasWaitsSaid :=
  OpenClaim.holds_of_wide 6 Tryz.f6 rfl rfl rfl rfl rfl rfl rfl ⟨rfl, rfl, rfl, rfl, rfl⟩ rfl rfl rfl rfl rfl (by kernel_rfl) Tryz.func6 (by kernel_rfl)
    (of_decide_eq_true (by kernel_rfl)) (by unfold Func.isWrapper; first | (rw [if_pos (by decide +kernel)]; kernel_rfl) | (rw [if_neg (by decide +kernel)]; exact ⟨rfl, rfl⟩))
    (fun os started H enc _ => lifted os started H enc)

theorem gasWaits_holds : Rows.GasWaitsCardSaid :=
  Claim7.holds_tied_plain_at .later [] [.data, .data, .data] true (true, "4fc05ff97337c211e58e94116c1afb33103fda01ac6f5a8902717e04a03fffff") true
    row_holds (fun _ h => by cases h) (by kernel_rfl) (fun _ h => by cases h) gasWaits_row_tie rfl ⟨rfl, rfl⟩ (by kernel_rfl) rfl
    (fun f fn hf hfn => by
      obtain rfl : f = 6 := Option.some.inj ((show Tryz.prog.funcNamed "bathyal/bathyallaw02.GasWaits" = some 6 by kernel_rfl).symm.trans hf) |>.symm
      obtain rfl : fn = Tryz.f6 := (Option.some.inj (Tryz.func6.symm.trans hfn)).symm
      exact ⟨by kernel_rfl, fun j t ht => by
        rw [Tryz.params6] at ht
        have hm : t ∈ [25, 28, 29, 29] := by simpa using Array.mem_of_getElem? ht
        have hall : ([25, 28, 29, 29].all fun u => !Tryz.prog.wantsStandIn u) = true := by kernel_rfl
        exact (show Tryz.prog.wantsStandIn t = false by simpa using List.all_eq_true.1 hall t hm)⟩)
    (by kernel_rfl)
#print axioms gasWaits_holds
end Go.Proofs.YtahochgbkhpefabGreatDoor.gasWaits
