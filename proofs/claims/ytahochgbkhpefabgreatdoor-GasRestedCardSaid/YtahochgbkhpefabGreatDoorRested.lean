/-
  The statement GasRested holds for every input: the law returns true and what came in reads as before.
-/
import Derived.Test.YtahochgbkhpefabGreatDoorP14
import Derived.Test.YtahochgbkhpefabGreatDoorP11
import Derived.Test.YtahochgbkhpefabGreatDoorRows
import Derived.Test.YtahochgbkhpefabGreatDoorTie
import Derived.Test.YtahochgbkhpefabGreatDoorCards
import Derived.Test.YtahochgbkhpefabGreatDoorChecked
import Derived.ProofKit
import Derived.OpenShut
import Derived.LaidMore
import Derived.Stop.Joined
import Derived.SevenTiedAt
import Derived.Carry
namespace Go.Proofs
open Go.RowKit Go.Shelf Gas
attribute [local go_sem ↓] Go.wp_at_zero Go.wp_at_succ

/-- The boxes of a table and a man, as a law lays them first. -/
structure Bn (w : World) (t : Tm) (W : World) : Prop where
  below : Below w.heap.size w W
  tab : Has W w.heap.size 25 #[.slice t.pA t.pn t.pc, .slice t.sA t.sn t.sc]
  man : Has W (w.heap.size + 1) 28 #[.slice t.rA t.rn t.rc]
theorem Bn.keep {w W W' : World} {t : Tm} (h : Bn w t W) (hb : Below W.heap.size W W') : Bn w t W' := ⟨nextB h.below hb, h.tab.after hb, h.man.after hb⟩
theorem Bn.start (w : World) (t : Tm) : Bn w t ((w.alloc (.cells #[.slice t.pA t.pn t.pc, .slice t.sA t.sn t.sc] 25)).alloc (.cells #[.slice t.rA t.rn t.rc] 28)) :=
  ⟨newB (newB (Below.refl _ _) _) _, (Has.new w 25 _).alloc _, Has.new' _ 28 _ (by simp)⟩

set_option maxHeartbeats 2000000 in
set_option maxRecDepth 50000 in
theorem gasRested_walk (t : Tm) (A A2 : Option Addr) (n c n2 c2 : Nat) (dive next : List St) (hA : A = none → c = 0) (hA2 : A2 = none → c2 = 0) (w : World) (hi : t.In w) (hd : SlOf St.cs 4 w A n dive) (hd2 : SlOf St.cs 4 w A2 n2 next) :
    Calls Tryz.prog 7 #[t.tab, t.man, .slice A n c, .slice A2 n2 c2] w fun e w' => e = .returned (.bool true) ∧ Below w.heap.size w w' := by
  have HSh := Lib.hid fun (W : World) => short_c t A n c W
  have E0 := Lib.hid (Bn.start w t)
  cases hs : shortB t n
  · rw [hs] at HSh
    clear hs hi hd hd2 hA hA2
    obtain ⟨pA, sA, rA, pn, pc, sn, sc, rn, rc, ps, ss, rs⟩ := t
    simp only [Tm.tab, Tm.man] at *
    go_enter Tryz.func7, Tryz.ntmps7
    go_wp2_with (first
      | (go_at_call 13; refine (HSh.out _).mono ?_; rintro e w13 ⟨rfl, hb⟩; have EE := Lib.hid (E0.out.keep hb); have ct := EE.out.tab.cell; have cm := EE.out.man.cell; clear hb)
      | (go_at_call 15; refine (knownLaw_c _).mono ?_; rintro e w15 ⟨rfl, hb⟩; have HB := Lib.hid (nextB EE.out.below hb); clear hb))
    exact bodyPost_ret (results_tmp rfl _ _ _) rfl ⟨rfl, HB.out⟩
  · rw [hs] at HSh
    obtain ⟨hsm, hn7⟩ := short_small hs
    by_cases h7 : n2 ≤ 7
    · have HFi := Lib.hid fun (W : World) (hb : Below w.heap.size w W) => fine_c t hsm A n c dive (by omega) W (hi.keep hb) (hd.keep hb)
      have HDv := Lib.hid fun (W : World) (hb : Below w.heap.size w W) => refDive_c A2 n2 c2 next (by omega) W (hd2.keep hb)
      cases hdb : definedB t.ps t.ss t.rs dive 0
      · rw [hdb] at HFi
        clear hs hi hd hd2 hA hA2 hsm hdb
        obtain ⟨pA, sA, rA, pn, pc, sn, sc, rn, rc, ps, ss, rs⟩ := t
        simp only [Tm.tab, Tm.man] at *
        go_enter Tryz.func7, Tryz.ntmps7
        go_wp2_with (first
          | (go_at_call 13; refine (HSh.out _).mono ?_; rintro e w13 ⟨rfl, hb⟩; have EE := Lib.hid (E0.out.keep hb); have ct := EE.out.tab.cell; have cm := EE.out.man.cell; clear hb)
          | (go_at_call 14; refine (HFi.out _ EE.out.below).mono ?_; rintro e w14 ⟨rfl, hb⟩; replace EE := Lib.hid (EE.out.keep hb); replace ct := EE.out.tab.cell; replace cm := EE.out.man.cell; clear hb)
          | (go_at_call 15; refine (knownLaw_c _).mono ?_; rintro e w15 ⟨rfl, hb⟩; have HB := Lib.hid (nextB EE.out.below hb); clear hb))
        exact bodyPost_ret (results_tmp rfl _ _ _) rfl ⟨rfl, HB.out⟩
      · rw [hdb] at HFi
        cases hnx : diveB next 0
        · rw [hnx] at HDv
          clear hs hi hd hd2 hA hA2 hsm hdb hnx
          obtain ⟨pA, sA, rA, pn, pc, sn, sc, rn, rc, ps, ss, rs⟩ := t
          simp only [Tm.tab, Tm.man] at *
          go_enter Tryz.func7, Tryz.ntmps7
          go_wp2_with (first
            | (go_at_call 13; refine (HSh.out _).mono ?_; rintro e w13 ⟨rfl, hb⟩; have EE := Lib.hid (E0.out.keep hb); have ct := EE.out.tab.cell; have cm := EE.out.man.cell; clear hb)
            | (go_at_call 14; refine (HFi.out _ EE.out.below).mono ?_; rintro e w14 ⟨rfl, hb⟩; replace EE := Lib.hid (EE.out.keep hb); replace ct := EE.out.tab.cell; replace cm := EE.out.man.cell; clear hb)
            | (go_at_call 26; refine (HDv.out _ EE.out.below).mono ?_; rintro e w26 ⟨rfl, hb⟩; replace EE := Lib.hid (EE.out.keep hb); replace ct := EE.out.tab.cell; replace cm := EE.out.man.cell; clear hb)
            | (go_at_call 15; refine (knownLaw_c _).mono ?_; rintro e w15 ⟨rfl, hb⟩; have HB := Lib.hid (nextB EE.out.below hb); clear hb))
          exact bodyPost_ret (results_tmp rfl _ _ _) rfl ⟨rfl, HB.out⟩
        · rw [hnx] at HDv
          have hw0 : IntKind.i64.wrap ((n : Int) + n2) = (n : Int) + n2 := wI (by omega) (by omega)
          by_cases hn4 : n + n2 < 4
          · have hn4b : ¬ 4 ≤ n + n2 := by omega
            have hn4c : ¬ (4 : Int) ≤ (n : Int) + n2 := by omega
            have hdl := hd.1
            have hdl2 := hd2.1
            have hsem := rest_sem hdb hnx (by omega)
            have HWt := Lib.hid fun (W : World) (hb : Below w.heap.size w W) => Wait_c t hsm A A2 n c n2 c2 dive next (by omega) (by omega) W (hi.keep hb) (hd.keep hb) (hd2.keep hb)
            have HSu := Lib.hid fun (W : World) (hb : Below w.heap.size w W) => Surely_c t hsm A n c dive (by omega) W (hi.keep hb) (hd.keep hb)
            rw [show sureF t dive = (keptF t (h0, true) dive, 0) by simp [sureF, hdb]] at HSu
            have HRe := Lib.hid fun (x : Int) (W : World) (hb : Below w.heap.size w W) => rested_c A A2 n c n2 c2 dive next hA hA2 (by omega) (by omega) x W (hd.keep hb) (hd2.keep hb)
            have HSS := Lib.hid fun (y : Int) (R : Bool) (hR : sureF t ((dive ++ [stayS 0 0 y]) ++ next) = (R, 0)) (W : World) (hb : Below w.heap.size w W) (g0 cap : Nat) (hsl : SlOf St.cs 4 W (some ⟨g0, 0, none⟩) (n + 1 + n2) ((dive ++ [stayS 0 0 y]) ++ next)) =>
              (show Calls Tryz.prog 17 #[t.tab, t.man, .slice (some ⟨g0, 0, none⟩) (n + 1 + n2) cap] W fun e w' => e = .returned (.tuple #[.bool R, .int .i64 0]) ∧ Below W.heap.size W w' by
                have := Surely_c t hsm (some ⟨g0, 0, none⟩) (n + 1 + n2) cap ((dive ++ [stayS 0 0 y]) ++ next) (by omega) W (hi.keep hb) hsl
                rw [hR] at this; exact this)
            clear hs hi hd hd2 hA hA2 hsm hdb hnx hdl hdl2
            rcases hsem with ⟨h1, h2⟩ | ⟨h1, h2⟩ | ⟨h1, m, h2, h3, h4, h5, h6⟩
            · rw [h1] at HSu
              rw [h2] at HWt
              clear h1 h2 HSS HRe
              obtain ⟨pA, sA, rA, pn, pc, sn, sc, rn, rc, ps, ss, rs⟩ := t
              simp only [Tm.tab, Tm.man] at *
              go_enter Tryz.func7, Tryz.ntmps7
              go_wp2_with (first
                | (go_at_call 13; refine (HSh.out _).mono ?_; rintro e w13 ⟨rfl, hb⟩; have EE := Lib.hid (E0.out.keep hb); have ct := EE.out.tab.cell; have cm := EE.out.man.cell; clear hb)
                | (go_at_call 14; refine (HFi.out _ EE.out.below).mono ?_; rintro e w14 ⟨rfl, hb⟩; replace EE := Lib.hid (EE.out.keep hb); replace ct := EE.out.tab.cell; replace cm := EE.out.man.cell; clear hb)
                | (go_at_call 26; refine (HDv.out _ EE.out.below).mono ?_; rintro e w26 ⟨rfl, hb⟩; replace EE := Lib.hid (EE.out.keep hb); replace ct := EE.out.tab.cell; replace cm := EE.out.man.cell; clear hb)
                | (go_at_call 25; refine (HWt.out _ EE.out.below).mono ?_; rintro e w25 ⟨rfl, hb⟩; replace EE := Lib.hid (EE.out.keep hb); replace ct := EE.out.tab.cell; replace cm := EE.out.man.cell; clear hb)
                | (go_at_call 17; refine (HSu.out _ EE.out.below).mono ?_; rintro e w17 ⟨rfl, hb⟩; replace EE := Lib.hid (EE.out.keep hb); replace ct := EE.out.tab.cell; replace cm := EE.out.man.cell; clear hb)
                | (go_at_call 15; refine (knownLaw_c _).mono ?_; rintro e w15 ⟨rfl, hb⟩; have HB := Lib.hid (nextB EE.out.below hb); clear hb))
              exact bodyPost_ret (results_tmp rfl _ _ _) rfl ⟨rfl, HB.out⟩
            · rw [h1] at HSu
              rw [h2] at HWt
              clear h1 h2 HSS HRe
              obtain ⟨pA, sA, rA, pn, pc, sn, sc, rn, rc, ps, ss, rs⟩ := t
              simp only [Tm.tab, Tm.man] at *
              go_enter Tryz.func7, Tryz.ntmps7
              go_wp2_with (first
                | (go_at_call 13; refine (HSh.out _).mono ?_; rintro e w13 ⟨rfl, hb⟩; have EE := Lib.hid (E0.out.keep hb); have ct := EE.out.tab.cell; have cm := EE.out.man.cell; clear hb)
                | (go_at_call 14; refine (HFi.out _ EE.out.below).mono ?_; rintro e w14 ⟨rfl, hb⟩; replace EE := Lib.hid (EE.out.keep hb); replace ct := EE.out.tab.cell; replace cm := EE.out.man.cell; clear hb)
                | (go_at_call 26; refine (HDv.out _ EE.out.below).mono ?_; rintro e w26 ⟨rfl, hb⟩; replace EE := Lib.hid (EE.out.keep hb); replace ct := EE.out.tab.cell; replace cm := EE.out.man.cell; clear hb)
                | (go_at_call 25; refine (HWt.out _ EE.out.below).mono ?_; rintro e w25 ⟨rfl, hb⟩; replace EE := Lib.hid (EE.out.keep hb); replace ct := EE.out.tab.cell; replace cm := EE.out.man.cell; clear hb)
                | (go_at_call 17; refine (HSu.out _ EE.out.below).mono ?_; rintro e w17 ⟨rfl, hb⟩; replace EE := Lib.hid (EE.out.keep hb); replace ct := EE.out.tab.cell; replace cm := EE.out.man.cell; clear hb)
                | (go_at_call 15; refine (knownLaw_c _).mono ?_; rintro e w15 ⟨rfl, hb⟩; have HB := Lib.hid (nextB EE.out.below hb); clear hb))
              exact bodyPost_ret (results_tmp rfl _ _ _) rfl ⟨rfl, HB.out⟩
            · rw [h1] at HSu
              rw [h2] at HWt
              have hx1 : ¬ m < 0 := by omega
              have hx2 : ¬ m > 240 := by omega
              by_cases hm : m ≤ 120
              · have hx3 : ¬ m > 120 := by omega
                have HS1 := Lib.hid (HSS.out m true (h5 hm))
                by_cases hm0 : m = 0
                · clear h1 h2 h5 h6 HSS
                  subst hm0
                  obtain ⟨pA, sA, rA, pn, pc, sn, sc, rn, rc, ps, ss, rs⟩ := t
                  simp only [Tm.tab, Tm.man] at *
                  go_enter Tryz.func7, Tryz.ntmps7
                  go_wp2_with (first
                    | (go_at_call 13; refine (HSh.out _).mono ?_; rintro e w13 ⟨rfl, hb⟩; have EE := Lib.hid (E0.out.keep hb); have ct := EE.out.tab.cell; have cm := EE.out.man.cell; clear hb)
                    | (go_at_call 14; refine (HFi.out _ EE.out.below).mono ?_; rintro e w14 ⟨rfl, hb⟩; replace EE := Lib.hid (EE.out.keep hb); replace ct := EE.out.tab.cell; replace cm := EE.out.man.cell; clear hb)
                    | (go_at_call 26; refine (HDv.out _ EE.out.below).mono ?_; rintro e w26 ⟨rfl, hb⟩; replace EE := Lib.hid (EE.out.keep hb); replace ct := EE.out.tab.cell; replace cm := EE.out.man.cell; clear hb)
                    | (go_at_call 25; refine (HWt.out _ EE.out.below).mono ?_; rintro e w25 ⟨rfl, hb⟩; replace EE := Lib.hid (EE.out.keep hb); replace ct := EE.out.tab.cell; replace cm := EE.out.man.cell; clear hb)
                    | (go_at_call 17; refine (HSu.out _ EE.out.below).mono ?_; rintro e w17 ⟨rfl, hb⟩; replace EE := Lib.hid (EE.out.keep hb); replace ct := EE.out.tab.cell; replace cm := EE.out.man.cell; clear hb)
                    | (go_at_call 15; refine (knownLaw_c _).mono ?_; rintro e w15 ⟨rfl, hb⟩; have HB := Lib.hid (nextB EE.out.below hb); clear hb))
                  apply wp_loose 12 (.v (.agg #[.slice pA pn pc, .slice sA sn sc]) :: .v (.agg #[.slice rA rn rc]) :: .v (.slice A n c) :: .v (.int .i64 0) :: .v (.slice A2 n2 c2) :: .r (fun v w' => ∃ g0 cap, v = .slice (some ⟨g0, 0, none⟩) (n + 1 + n2) cap ∧ SlOf St.cs 4 w' (some ⟨g0, 0, none⟩) (n + 1 + n2) ((dive ++ [stayS 0 0 0]) ++ next)) :: .v (.tuple #[.bool true, .int .i64 0]) :: .v (.tuple #[.bool true, .int .i64 0]) :: .v (.bool true) :: .v (.int .i64 0) :: .v (.bool true) :: .v (.int .i64 0) :: []) (by kernel_rfl) (by kernel_rfl) (by kernel_rfl) (by decide) rfl
                  intro K hK
                  refine OblS.row rfl 25 (.tmp 4) rfl w.heap.size (by kernel_rfl) 25 _ _ EE.out.tab Tryz.underlying25 rfl (by kernel_rfl) ?_
                  refine OblS.row rfl 28 (.tmp 5) rfl (w.heap.size + 1) (by kernel_rfl) 28 _ _ EE.out.man Tryz.underlying28 rfl (by kernel_rfl) ?_
                  iterate 2 refine OblS.val (by kernel_rfl) (fun w' _ _ => (by kernel_rfl)) ?_
                  refine OblS.val (by kernel_rfl) (fun w' _ _ => (by kernel_rfl)) ?_
                  refine OblS.callR 29 (by rintro v x y ⟨g0, cap, e, h⟩ hb; exact ⟨g0, cap, e, h.keep hb⟩) (by kernel_rfl) (fun w' hb _ => ⟨#[.slice A n c, .int .i64 0, .slice A2 n2 c2], (by kernel_rfl), (HRe.out _ w' (nextB EE.out.below hb)).mono fun e x ⟨g0, cap, h1, h2, h3⟩ => ⟨_, h1, ⟨g0, cap, rfl, h2⟩, h3⟩⟩) ?_
                  intro vs
                  refine OblS.call 17 (by kernel_rfl) (fun w' hb hH => ?_) ?_
                  · obtain ⟨g0, cap, rfl, hsl⟩ := hH _ (List.mem_cons_self ..) (by kernel_rfl)
                    exact ⟨#[.agg #[.slice pA pn pc, .slice sA sn sc], .agg #[.slice rA rn rc], .slice (some ⟨g0, 0, none⟩) (n + 1 + n2) cap], (by kernel_rfl), HS1.out w' (nextB EE.out.below hb) g0 cap hsl⟩
                  iterate 5 refine OblS.val (by kernel_rfl) (fun w' _ _ => (by kernel_rfl)) ?_
                  apply OblS.nil
                  apply hK
                  intro w6 hb hH
                  clear hH hK K
                  simp only [Act.put, List.setIfInBounds_toArray, List.set_cons_zero, List.set_cons_succ, List.drop_succ_cons, List.drop_zero]
                  replace EE := Lib.hid (EE.out.keep hb); replace ct := EE.out.tab.cell; replace cm := EE.out.man.cell; clear hb
                  go_wp2_with (first
                    | (go_at_call 15; refine (knownLaw_c _).mono ?_; rintro e w15 ⟨rfl, hb⟩; have HB := Lib.hid (nextB EE.out.below hb); clear hb))
                  exact bodyPost_ret (results_tmp rfl _ _ _) rfl ⟨rfl, HB.out⟩
                · have HS2 := Lib.hid (HSS.out (m - 1) false (h6 (by omega) hm))
                  have hw : IntKind.i64.wrap (m - 1) = m - 1 := wI (by omega) (by omega)
                  clear h1 h2 h5 h6 HSS
                  obtain ⟨pA, sA, rA, pn, pc, sn, sc, rn, rc, ps, ss, rs⟩ := t
                  simp only [Tm.tab, Tm.man] at *
                  go_enter Tryz.func7, Tryz.ntmps7
                  go_wp2_with (first
                    | (go_at_call 13; refine (HSh.out _).mono ?_; rintro e w13 ⟨rfl, hb⟩; have EE := Lib.hid (E0.out.keep hb); have ct := EE.out.tab.cell; have cm := EE.out.man.cell; clear hb)
                    | (go_at_call 14; refine (HFi.out _ EE.out.below).mono ?_; rintro e w14 ⟨rfl, hb⟩; replace EE := Lib.hid (EE.out.keep hb); replace ct := EE.out.tab.cell; replace cm := EE.out.man.cell; clear hb)
                    | (go_at_call 26; refine (HDv.out _ EE.out.below).mono ?_; rintro e w26 ⟨rfl, hb⟩; replace EE := Lib.hid (EE.out.keep hb); replace ct := EE.out.tab.cell; replace cm := EE.out.man.cell; clear hb)
                    | (go_at_call 25; refine (HWt.out _ EE.out.below).mono ?_; rintro e w25 ⟨rfl, hb⟩; replace EE := Lib.hid (EE.out.keep hb); replace ct := EE.out.tab.cell; replace cm := EE.out.man.cell; clear hb)
                    | (go_at_call 17; refine (HSu.out _ EE.out.below).mono ?_; rintro e w17 ⟨rfl, hb⟩; replace EE := Lib.hid (EE.out.keep hb); replace ct := EE.out.tab.cell; replace cm := EE.out.man.cell; clear hb)
                    | (go_at_call 15; refine (knownLaw_c _).mono ?_; rintro e w15 ⟨rfl, hb⟩; have HB := Lib.hid (nextB EE.out.below hb); clear hb))
                  apply wp_loose 12 (.v (.agg #[.slice pA pn pc, .slice sA sn sc]) :: .v (.agg #[.slice rA rn rc]) :: .v (.slice A n c) :: .v (.int .i64 m) :: .v (.slice A2 n2 c2) :: .r (fun v w' => ∃ g0 cap, v = .slice (some ⟨g0, 0, none⟩) (n + 1 + n2) cap ∧ SlOf St.cs 4 w' (some ⟨g0, 0, none⟩) (n + 1 + n2) ((dive ++ [stayS 0 0 m]) ++ next)) :: .v (.tuple #[.bool true, .int .i64 0]) :: .v (.tuple #[.bool true, .int .i64 0]) :: .v (.bool true) :: .v (.int .i64 0) :: .v (.bool true) :: .v (.int .i64 0) :: []) (by kernel_rfl) (by kernel_rfl) (by kernel_rfl) (by decide) rfl
                  intro K hK
                  refine OblS.row rfl 25 (.tmp 4) rfl w.heap.size (by kernel_rfl) 25 _ _ EE.out.tab Tryz.underlying25 rfl (by kernel_rfl) ?_
                  refine OblS.row rfl 28 (.tmp 5) rfl (w.heap.size + 1) (by kernel_rfl) 28 _ _ EE.out.man Tryz.underlying28 rfl (by kernel_rfl) ?_
                  iterate 2 refine OblS.val (by kernel_rfl) (fun w' _ _ => (by kernel_rfl)) ?_
                  refine OblS.val (by kernel_rfl) (fun w' _ _ => (by kernel_rfl)) ?_
                  refine OblS.callR 29 (by rintro v x y ⟨g0, cap, e, h⟩ hb; exact ⟨g0, cap, e, h.keep hb⟩) (by kernel_rfl) (fun w' hb _ => ⟨#[.slice A n c, .int .i64 m, .slice A2 n2 c2], (by kernel_rfl), (HRe.out _ w' (nextB EE.out.below hb)).mono fun e x ⟨g0, cap, h1, h2, h3⟩ => ⟨_, h1, ⟨g0, cap, rfl, h2⟩, h3⟩⟩) ?_
                  intro vs
                  refine OblS.call 17 (by kernel_rfl) (fun w' hb hH => ?_) ?_
                  · obtain ⟨g0, cap, rfl, hsl⟩ := hH _ (List.mem_cons_self ..) (by kernel_rfl)
                    exact ⟨#[.agg #[.slice pA pn pc, .slice sA sn sc], .agg #[.slice rA rn rc], .slice (some ⟨g0, 0, none⟩) (n + 1 + n2) cap], (by kernel_rfl), HS1.out w' (nextB EE.out.below hb) g0 cap hsl⟩
                  iterate 5 refine OblS.val (by kernel_rfl) (fun w' _ _ => (by kernel_rfl)) ?_
                  apply OblS.nil
                  apply hK
                  intro w6 hb hH
                  clear hH hK K
                  simp only [Act.put, List.setIfInBounds_toArray, List.set_cons_zero, List.set_cons_succ, List.drop_succ_cons, List.drop_zero]
                  replace EE := Lib.hid (EE.out.keep hb); replace ct := EE.out.tab.cell; replace cm := EE.out.man.cell; clear hb
                  go_wp2
                  apply wp_loose 13 (.v (.agg #[.slice pA pn pc, .slice sA sn sc]) :: .v (.agg #[.slice rA rn rc]) :: .v (.slice A n c) :: .v (.int .i64 m) :: .v (.int .i64 (m - 1)) :: .v (.slice A2 n2 c2) :: .r (fun v w' => ∃ g0 cap, v = .slice (some ⟨g0, 0, none⟩) (n + 1 + n2) cap ∧ SlOf St.cs 4 w' (some ⟨g0, 0, none⟩) (n + 1 + n2) ((dive ++ [stayS 0 0 (m - 1)]) ++ next)) :: .v (.tuple #[.bool false, .int .i64 0]) :: .v (.tuple #[.bool false, .int .i64 0]) :: .v (.bool false) :: .v (.int .i64 0) :: .v (.bool false) :: .v (.int .i64 0) :: []) (by kernel_rfl) (by kernel_rfl) (by kernel_rfl) (by decide) rfl
                  intro K hK
                  refine OblS.row rfl 25 (.tmp 4) rfl w.heap.size (by kernel_rfl) 25 _ _ EE.out.tab Tryz.underlying25 rfl (by kernel_rfl) ?_
                  refine OblS.row rfl 28 (.tmp 5) rfl (w.heap.size + 1) (by kernel_rfl) 28 _ _ EE.out.man Tryz.underlying28 rfl (by kernel_rfl) ?_
                  iterate 2 refine OblS.val (by kernel_rfl) (fun w' _ _ => (by kernel_rfl)) ?_
                  refine OblS.val (by kernel_rfl) (fun w' _ _ => (by go_simp; try first | done | rfl)) ?_
                  refine OblS.val (by kernel_rfl) (fun w' _ _ => (by kernel_rfl)) ?_
                  refine OblS.callR 29 (by rintro v x y ⟨g0, cap, e, h⟩ hb; exact ⟨g0, cap, e, h.keep hb⟩) (by kernel_rfl) (fun w' hb _ => ⟨#[.slice A n c, .int .i64 (m - 1), .slice A2 n2 c2], (by kernel_rfl), (HRe.out _ w' (nextB EE.out.below hb)).mono fun e x ⟨g0, cap, h1, h2, h3⟩ => ⟨_, h1, ⟨g0, cap, rfl, h2⟩, h3⟩⟩) ?_
                  intro vs
                  refine OblS.call 17 (by kernel_rfl) (fun w' hb hH => ?_) ?_
                  · obtain ⟨g0, cap, rfl, hsl⟩ := hH _ (List.mem_cons_self ..) (by kernel_rfl)
                    exact ⟨#[.agg #[.slice pA pn pc, .slice sA sn sc], .agg #[.slice rA rn rc], .slice (some ⟨g0, 0, none⟩) (n + 1 + n2) cap], (by kernel_rfl), HS2.out w' (nextB EE.out.below hb) g0 cap hsl⟩
                  iterate 5 refine OblS.val (by kernel_rfl) (fun w' _ _ => (by kernel_rfl)) ?_
                  apply OblS.nil
                  apply hK
                  intro w6 hb hH
                  clear hH hK K
                  simp only [Act.put, List.setIfInBounds_toArray, List.set_cons_zero, List.set_cons_succ, List.drop_succ_cons, List.drop_zero]
                  replace EE := Lib.hid (EE.out.keep hb); replace ct := EE.out.tab.cell; replace cm := EE.out.man.cell; clear hb
                  go_wp2_with (first
                    | (go_at_call 15; refine (knownLaw_c _).mono ?_; rintro e w15 ⟨rfl, hb⟩; have HB := Lib.hid (nextB EE.out.below hb); clear hb))
                  exact bodyPost_ret (results_tmp rfl _ _ _) rfl ⟨rfl, HB.out⟩
              · have hx3 : m > 120 := by omega
                clear h1 h2 h5 h6 HSS HRe
                obtain ⟨pA, sA, rA, pn, pc, sn, sc, rn, rc, ps, ss, rs⟩ := t
                simp only [Tm.tab, Tm.man] at *
                go_enter Tryz.func7, Tryz.ntmps7
                go_wp2_with (first
                  | (go_at_call 13; refine (HSh.out _).mono ?_; rintro e w13 ⟨rfl, hb⟩; have EE := Lib.hid (E0.out.keep hb); have ct := EE.out.tab.cell; have cm := EE.out.man.cell; clear hb)
                  | (go_at_call 14; refine (HFi.out _ EE.out.below).mono ?_; rintro e w14 ⟨rfl, hb⟩; replace EE := Lib.hid (EE.out.keep hb); replace ct := EE.out.tab.cell; replace cm := EE.out.man.cell; clear hb)
                  | (go_at_call 26; refine (HDv.out _ EE.out.below).mono ?_; rintro e w26 ⟨rfl, hb⟩; replace EE := Lib.hid (EE.out.keep hb); replace ct := EE.out.tab.cell; replace cm := EE.out.man.cell; clear hb)
                  | (go_at_call 25; refine (HWt.out _ EE.out.below).mono ?_; rintro e w25 ⟨rfl, hb⟩; replace EE := Lib.hid (EE.out.keep hb); replace ct := EE.out.tab.cell; replace cm := EE.out.man.cell; clear hb)
                  | (go_at_call 17; refine (HSu.out _ EE.out.below).mono ?_; rintro e w17 ⟨rfl, hb⟩; replace EE := Lib.hid (EE.out.keep hb); replace ct := EE.out.tab.cell; replace cm := EE.out.man.cell; clear hb)
                  | (go_at_call 15; refine (knownLaw_c _).mono ?_; rintro e w15 ⟨rfl, hb⟩; have HB := Lib.hid (nextB EE.out.below hb); clear hb))
                exact bodyPost_ret (results_tmp rfl _ _ _) rfl ⟨rfl, HB.out⟩
          · have hn4b : 4 ≤ n + n2 := by omega
            have hn4c : (4 : Int) ≤ (n : Int) + n2 := by omega
            clear hs hi hd hd2 hA hA2 hsm hdb hnx
            obtain ⟨pA, sA, rA, pn, pc, sn, sc, rn, rc, ps, ss, rs⟩ := t
            simp only [Tm.tab, Tm.man] at *
            go_enter Tryz.func7, Tryz.ntmps7
            go_wp2_with (first
              | (go_at_call 13; refine (HSh.out _).mono ?_; rintro e w13 ⟨rfl, hb⟩; have EE := Lib.hid (E0.out.keep hb); have ct := EE.out.tab.cell; have cm := EE.out.man.cell; clear hb)
              | (go_at_call 14; refine (HFi.out _ EE.out.below).mono ?_; rintro e w14 ⟨rfl, hb⟩; replace EE := Lib.hid (EE.out.keep hb); replace ct := EE.out.tab.cell; replace cm := EE.out.man.cell; clear hb)
              | (go_at_call 26; refine (HDv.out _ EE.out.below).mono ?_; rintro e w26 ⟨rfl, hb⟩; replace EE := Lib.hid (EE.out.keep hb); replace ct := EE.out.tab.cell; replace cm := EE.out.man.cell; clear hb)
              | (go_at_call 15; refine (knownLaw_c _).mono ?_; rintro e w15 ⟨rfl, hb⟩; have HB := Lib.hid (nextB EE.out.below hb); clear hb))
            exact bodyPost_ret (results_tmp rfl _ _ _) rfl ⟨rfl, HB.out⟩
    · have h7' : 7 < n2 := by omega
      clear hs hi hd hd2 hA hA2 hsm
      obtain ⟨pA, sA, rA, pn, pc, sn, sc, rn, rc, ps, ss, rs⟩ := t
      simp only [Tm.tab, Tm.man] at *
      go_enter Tryz.func7, Tryz.ntmps7
      go_wp2_with (first
        | (go_at_call 13; refine (HSh.out _).mono ?_; rintro e w13 ⟨rfl, hb⟩; have EE := Lib.hid (E0.out.keep hb); have ct := EE.out.tab.cell; have cm := EE.out.man.cell; clear hb)
        | (go_at_call 15; refine (knownLaw_c _).mono ?_; rintro e w15 ⟨rfl, hb⟩; have HB := Lib.hid (nextB EE.out.below hb); clear hb))
      exact bodyPost_ret (results_tmp rfl _ _ _) rfl ⟨rfl, HB.out⟩
end Go.Proofs
namespace Go.Proofs.YtahochgbkhpefabGreatDoor.gasRested
open Go.ChangeShapes Go.WideShapes Go.ChangeAt Go.RowKit Go.Proofs

theorem own : ownKnob Tryz.prog.godebug = none := by kernel_rfl
theorem laidOut : laidOutB Tryz.prog = true := by kernel_rfl
theorem door_met (os : Os) (args : Array Value) : laidMetH Tryz.prog Rows.gasRestedRow.laid ((World.doorLaid Tryz.prog 400 os).forCall (fun _ _ => 0) ⟨#[], args, []⟩).memory :=
  laidMetH_of_parts3 (fuel := 8) (laidMet_of_run' 8 (by kernel_rfl) (by kernel_rfl)) (by kernel_rfl) (by kernel_rfl)

set_option maxRecDepth 100000 in
theorem lifted (os : Os) (started : os.Started) (H : Type) (enc : TypeId × Value → H) :
    ReturnsInHanded {} Tryz.checked os 7 .any (fun w args => (Rows.gasRestedSpec.pre enc Tryz.prog Tryz.f7 [] false w args ∧ laidMetH Tryz.prog Rows.gasRestedRow.laid w) ∧ sizedMet enc Tryz.prog Tryz.f7 (OpenSpec.ofChange Rows.gasRestedSpec) false w args)
      (Rows.gasRestedSpec.post enc Tryz.prog Tryz.f7 false true false false) := by
  refine returnsInHanded_of_change_and (C := Tryz.checked) (X := fun w _ => laidMetH Tryz.prog Rows.gasRestedRow.laid w) (fun _ _ _ hh h => h.of_heap hh) own started (by kernel_rfl) Tryz.func7
    (ChangeSpec.witness_shaped (enc := enc) (C := Tryz.checked) (os := os) (X := fun w _ => laidMetH Tryz.prog Rows.gasRestedRow.laid w) false (World.doorLaid Tryz.prog 400 os) #[.agg #[.slice none 0 0, .slice none 0 0], .agg #[.slice none 0 0], .slice none 0 0, .slice none 0 0] 8 rfl (World.shaped_of_RefB (by kernel_rfl) (by kernel_rfl)) (by kernel_rfl) (by kernel_rfl) (by kernel_rfl) (door_met os _)) ?_
  intro W base args ds gs before hval0 hW _ _ hL _
  have hval : ∀ (j : Nat) t v, Tryz.f7.params[j]? = some t → args[j]? = some v → Value.okWide Tryz.prog W .any base t v := hval0
  have hW' := hW
  obtain ⟨p, q, hA0, hV, rfl, hfz, hnd⟩ := hW
  have hA : DataW.TrodAll enc Tryz.prog W 0 (fun _ => true) true Tryz.f7.params.toList args.toList ds p := hA0
  rw [Tryz.params7] at hA hval
  obtain ⟨v0, vs0, d0, ds0, p0, q0, hargs, rfl, rfl, h0, r0⟩ := trodAll_cons hA
  obtain ⟨v1, vs1, d1, ds1, p1, q1, rfl, rfl, rfl, h1, r1⟩ := trodAll_cons r0
  obtain ⟨v2, vs2, d2, ds2, p2, q2, rfl, rfl, rfl, h2, r2⟩ := trodAll_cons r1
  obtain ⟨v3, vs3, d3, ds3, p3, q3, rfl, rfl, rfl, h3, r3⟩ := trodAll_cons r2
  obtain ⟨rfl, rfl, rfl⟩ := trodAll_nil r3
  obtain rfl : args = #[v0, v1, v2, v3] := by cases args; simp_all
  obtain ⟨rfl, rfl⟩ := trodVars_none hV
  have k0 := h0
  have lt0 : ∀ x ∈ p0, x.block < W.heap.size := by obtain ⟨m, hm⟩ := k0; exact DataW.trod_lt m _ _ _ hm
  have u0 := hval 0 25 v0 rfl rfl
  obtain ⟨pA, pn, pc, ps, sA, sn, sc, ss, rfl, hP, hS⟩ := arg_table u0 h0
  have k1 := h1
  have lt1 : ∀ x ∈ p1, x.block < W.heap.size := by obtain ⟨m, hm⟩ := k1; exact DataW.trod_lt m _ _ _ hm
  have u1 := hval 1 28 v1 rfl rfl
  obtain ⟨rA, rn, rc, rs, rfl, hR⟩ := arg_man u1 h1
  have k2 := h2
  have lt2 : ∀ x ∈ p2, x.block < W.heap.size := by obtain ⟨m, hm⟩ := k2; exact DataW.trod_lt m _ _ _ hm
  have u2 := hval 2 29 v2 rfl rfl
  obtain ⟨A2, n2, c2, l2, rfl, hd2, hc2, hm2, hA2⟩ := arg_dive u2 h2
  have k3 := h3
  have lt3 : ∀ x ∈ p3, x.block < W.heap.size := by obtain ⟨m, hm⟩ := k3; exact DataW.trod_lt m _ _ _ hm
  have u3 := hval 3 29 v3 rfl rfl
  obtain ⟨A3, n3, c3, l3, rfl, hd3, hc3, hm3, hA3⟩ := arg_dive u3 h3
  clear hA0 hval0
  simp only [List.append_nil] at hW'
  refine (gasRested_walk ⟨pA, sA, rA, pn, pc, sn, sc, rn, rc, ps, ss, rs⟩ A2 A3 n2 c2 n3 c3 l2 l3 hA2 hA3 W ⟨hP, hS, hR⟩ hd2 hd3).mono fun e W' ⟨he, bel⟩ => ?_
  subst he
  exact ⟨_, rfl, _, _, _, [], _, [], hW', trodAll_mk1 (shut_bool Tryz.underlying4 _), (trodAll_cons_mk (Below.trod laidOut (by kernel_rfl) (of_decide_eq_true (by kernel_rfl)) k0 bel lt0) (trodAll_cons_mk (Below.trod laidOut (by kernel_rfl) (of_decide_eq_true (by kernel_rfl)) k1 bel lt1) (trodAll_cons_mk (Below.trod laidOut (by kernel_rfl) (of_decide_eq_true (by kernel_rfl)) k2 bel lt2) (trodAll_cons_mk (Below.trod laidOut (by kernel_rfl) (of_decide_eq_true (by kernel_rfl)) k3 bel lt3) trodAll_mk0)))), rfl, bel.frame _, fun h => by cases h⟩

theorem row_holds : Rows.GasRestedSaid :=
  OpenClaim.holds_of_wide 7 Tryz.f7 rfl rfl rfl rfl rfl rfl rfl ⟨rfl, rfl, rfl, rfl, rfl⟩ rfl rfl rfl rfl rfl (by kernel_rfl) Tryz.func7 (by kernel_rfl)
    (of_decide_eq_true (by kernel_rfl)) (by unfold Func.isWrapper; first | (rw [if_pos (by decide +kernel)]; kernel_rfl) | (rw [if_neg (by decide +kernel)]; exact ⟨rfl, rfl⟩))
    (fun os started H enc _ => lifted os started H enc)

theorem gasRested_holds : Rows.GasRestedCardSaid :=
  Claim7.holds_tied_plain_at .later [] [.data, .data, .data] true (true, "4fc05ff97337c211e58e94116c1afb33103fda01ac6f5a8902717e04a03fffff") true
    row_holds (fun _ h => by cases h) (by kernel_rfl) (fun _ h => by cases h) gasRested_row_tie rfl ⟨rfl, rfl⟩ (by kernel_rfl) rfl
    (fun f fn hf hfn => by
      obtain rfl : f = 7 := Option.some.inj ((show Tryz.prog.funcNamed "bathyal/bathyallaw02.GasRested" = some 7 by kernel_rfl).symm.trans hf) |>.symm
      obtain rfl : fn = Tryz.f7 := (Option.some.inj (Tryz.func7.symm.trans hfn)).symm
      exact ⟨by kernel_rfl, fun j t ht => by
        rw [Tryz.params7] at ht
        have hm : t ∈ [25, 28, 29, 29] := by simpa using Array.mem_of_getElem? ht
        have hall : ([25, 28, 29, 29].all fun u => !Tryz.prog.wantsStandIn u) = true := by kernel_rfl
        exact (show Tryz.prog.wantsStandIn t = false by simpa using List.all_eq_true.1 hall t hm)⟩)
    (by kernel_rfl)
#print axioms gasRested_holds
end Go.Proofs.YtahochgbkhpefabGreatDoor.gasRested
