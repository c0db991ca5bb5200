/-
  The statement GasLatest holds for every input: the law returns true and what came in reads as before.
-/
import Derived.Test.YtahochgbkhpefabGreatDoorP14
import Derived.Test.YtahochgbkhpefabGreatDoorP11
import Derived.Test.YtahochgbkhpefabGreatDoorRows
import Derived.Test.YtahochgbkhpefabGreatDoorTie
import Derived.Test.YtahochgbkhpefabGreatDoorCards
import Derived.Test.YtahochgbkhpefabGreatDoorChecked
import Derived.ProofKit
import Derived.OpenShut
import Derived.LaidMore
import Derived.Stop.Joined
import Derived.SevenTiedAt
import Derived.Carry
namespace Go.Proofs
open Go.RowKit Go.Shelf Gas
attribute [local go_sem ↓] Go.wp_at_zero Go.wp_at_succ

/-- The boxes of a table, a man, a span and a stop, as a law lays them first. -/
structure Bl (w : World) (t : Tm) (l g a b : Int) (W : World) : Prop where
  below : Below w.heap.size w W
  tab : Has W w.heap.size 25 #[.slice t.pA t.pn t.pc, .slice t.sA t.sn t.sc]
  man : Has W (w.heap.size + 1) 28 #[.slice t.rA t.rn t.rc]
  sp : Has W (w.heap.size + 1 + 1) 43 #[.int .i64 l, .int .i64 g]
  st : Has W (w.heap.size + 1 + 1 + 1) 31 #[.int .i64 a, .int .i64 b]
theorem Bl.keep {w W W' : World} {t : Tm} {l g a b : Int} (h : Bl w t l g a b W) (hb : Below W.heap.size W W') : Bl w t l g a b W' := ⟨nextB h.below hb, h.tab.after hb, h.man.after hb, h.sp.after hb, h.st.after hb⟩
theorem Bl.start (w : World) (t : Tm) (l g a b : Int) : Bl w t l g a b ((((w.alloc (.cells #[.slice t.pA t.pn t.pc, .slice t.sA t.sn t.sc] 25)).alloc (.cells #[.slice t.rA t.rn t.rc] 28)).alloc (.cells #[.int .i64 l, .int .i64 g] 43)).alloc (.cells #[.int .i64 a, .int .i64 b] 31)) :=
  ⟨newB (newB (newB (newB (Below.refl _ _) _) _) _) _, (((Has.new w 25 _).alloc _).alloc _).alloc _, ((Has.new' _ 28 _ (by simp)).alloc _).alloc _, (Has.new' _ 43 _ (by simp)).alloc _, Has.new' _ 31 _ (by simp)⟩

set_option maxHeartbeats 2000000 in
set_option maxRecDepth 50000 in
theorem gasLatest_walk (t : Tm) (A : Option Addr) (n c : Nat) (dive : List St) (hA : A = none → c = 0) (l g mn a b : Int) (w : World) (hi : t.In w) (hd : SlOf St.cs 4 w A n dive) :
    Calls Tryz.prog 5 #[t.tab, t.man, .slice A n c, .agg #[.int .i64 l, .int .i64 g], .int .i64 mn, .agg #[.int .i64 a, .int .i64 b]] w fun e w' => e = .returned (.bool true) ∧ Below w.heap.size w w' := by
  have HSh := Lib.hid fun (W : World) => short_c t A n c W
  have E0 := Lib.hid (Bl.start w t l g a b)
  cases hs : shortB t n
  · rw [hs] at HSh
    clear hs hi hd hA
    obtain ⟨pA, sA, rA, pn, pc, sn, sc, rn, rc, ps, ss, rs⟩ := t
    simp only [Tm.tab, Tm.man] at *
    go_enter Tryz.func5, Tryz.ntmps5
    go_wp2_with (first
      | (go_at_call 13; refine (HSh.out _).mono ?_; rintro e w13 ⟨rfl, hb⟩; have EE := Lib.hid (E0.out.keep hb); have ct := EE.out.tab.cell; have cm := EE.out.man.cell; have cs := EE.out.sp.cell; have co := EE.out.st.cell; clear hb)
      | (go_at_call 15; refine (knownLaw_c _).mono ?_; rintro e w15 ⟨rfl, hb⟩; have HB := Lib.hid (nextB EE.out.below hb); clear hb))
    exact bodyPost_ret (results_tmp rfl _ _ _) rfl ⟨rfl, HB.out⟩
  · rw [hs] at HSh
    obtain ⟨hsm, hn7⟩ := short_small hs
    have HFi := Lib.hid fun (W : World) (hb : Below w.heap.size w W) => fine_c t hsm A n c dive (by omega) W (hi.keep hb) (hd.keep hb)
    have HFa := Lib.hid fun (W : World) => fathoms_c l g W
    cases hdb : definedB t.ps t.ss t.rs dive 0
    · rw [hdb] at HFi
      clear hs hi hd hA hsm hdb
      obtain ⟨pA, sA, rA, pn, pc, sn, sc, rn, rc, ps, ss, rs⟩ := t
      simp only [Tm.tab, Tm.man] at *
      go_enter Tryz.func5, Tryz.ntmps5
      go_wp2_with (first
        | (go_at_call 13; refine (HSh.out _).mono ?_; rintro e w13 ⟨rfl, hb⟩; have EE := Lib.hid (E0.out.keep hb); have ct := EE.out.tab.cell; have cm := EE.out.man.cell; have cs := EE.out.sp.cell; have co := EE.out.st.cell; clear hb)
        | (go_at_call 14; refine (HFi.out _ EE.out.below).mono ?_; rintro e w14 ⟨rfl, hb⟩; replace EE := Lib.hid (EE.out.keep hb); replace ct := EE.out.tab.cell; replace cm := EE.out.man.cell; replace cs := EE.out.sp.cell; replace co := EE.out.st.cell; clear hb)
        | (go_at_call 15; refine (knownLaw_c _).mono ?_; rintro e w15 ⟨rfl, hb⟩; have HB := Lib.hid (nextB EE.out.below hb); clear hb))
      exact bodyPost_ret (results_tmp rfl _ _ _) rfl ⟨rfl, HB.out⟩
    · rw [hdb] at HFi
      cases ho : ordB l g 0 40 6
      · rw [ho] at HFa
        clear hs hi hd hA hsm hdb ho
        obtain ⟨pA, sA, rA, pn, pc, sn, sc, rn, rc, ps, ss, rs⟩ := t
        simp only [Tm.tab, Tm.man] at *
        go_enter Tryz.func5, Tryz.ntmps5
        go_wp2_with (first
          | (go_at_call 13; refine (HSh.out _).mono ?_; rintro e w13 ⟨rfl, hb⟩; have EE := Lib.hid (E0.out.keep hb); have ct := EE.out.tab.cell; have cm := EE.out.man.cell; have cs := EE.out.sp.cell; have co := EE.out.st.cell; clear hb)
          | (go_at_call 14; refine (HFi.out _ EE.out.below).mono ?_; rintro e w14 ⟨rfl, hb⟩; replace EE := Lib.hid (EE.out.keep hb); replace ct := EE.out.tab.cell; replace cm := EE.out.man.cell; replace cs := EE.out.sp.cell; replace co := EE.out.st.cell; clear hb)
          | (go_at_call 21; refine (HFa.out _).mono ?_; rintro e w21 ⟨rfl, hb⟩; replace EE := Lib.hid (EE.out.keep hb); replace ct := EE.out.tab.cell; replace cm := EE.out.man.cell; replace cs := EE.out.sp.cell; replace co := EE.out.st.cell; clear hb)
          | (go_at_call 15; refine (knownLaw_c _).mono ?_; rintro e w15 ⟨rfl, hb⟩; have HB := Lib.hid (nextB EE.out.below hb); clear hb))
        exact bodyPost_ret (results_tmp rfl _ _ _) rfl ⟨rfl, HB.out⟩
      · rw [ho] at HFa
        have hw0 : IntKind.i64.wrap ((n : Int) + 1) = (n : Int) + 1 := wI (by omega) (by omega)
        by_cases hn4 : n < 3
        · have hn4b : ¬ 4 ≤ n + 1 := by omega
          have hn4c : ¬ (4 : Int) ≤ (n : Int) + 1 := by omega
          have hn4d : ¬ 3 ≤ n := by omega
          have hdl := hd.1
          obtain ⟨L, b1, b2, e1, e2, e3, e4⟩ := late_sem hdb (by omega) ho
          have HMo := Lib.hid fun (W : World) (hb : Below w.heap.size w W) => Moment_c t hsm A n c dive l g (by omega) W (hi.keep hb) (hd.keep hb)
          rw [e1] at HMo
          have HLs := Lib.hid fun (W : World) (hb : Below w.heap.size w W) => listed_c t hsm.s a b W (hi.ss.keep hb)
          have HMr := Lib.hid fun (m : Int) (W : World) (hb : Below w.heap.size w W) => More_c A n c dive hA (by omega) l g m m W (hd.keep hb)
          have HSp := Lib.hid fun (m : Int) (W : World) (g0 cap : Nat) (hsl : SlOf St.cs 4 W (some ⟨g0, 0, none⟩) (n + 1) (dive ++ [stayS l g m])) => stopped_c (some ⟨g0, 0, none⟩) (n + 1) cap (dive ++ [stayS l g m]) (fun h => by cases h) (by omega) a b W hsl
          have HSt := Lib.hid fun (m x y : Int) (hR : stopF t (dive ++ [stayS l g m]) = ((x, y), 0)) (W : World) (hb : Below w.heap.size w W) (g0 cap : Nat) (hsl : SlOf St.cs 4 W (some ⟨g0, 0, none⟩) (n + 1) (dive ++ [stayS l g m])) =>
            (show Calls Tryz.prog 16 #[t.tab, t.man, .slice (some ⟨g0, 0, none⟩) (n + 1) cap] W fun e w' => e = .returned (.tuple #[.agg #[.int .i64 x, .int .i64 y], .int .i64 0]) ∧ Below W.heap.size W w' by
              have := Stop_c t hsm (some ⟨g0, 0, none⟩) (n + 1) cap (dive ++ [stayS l g m]) (by omega) W (hi.keep hb) hsl
              rw [hR] at this; exact this)
          have HSv := Lib.hid fun (m : Int) (hR : sureF t (dive ++ [stayS l g m]) = (false, 0)) (W : World) (hb : Below w.heap.size w W) (g0 cap : Nat) (hsl : SlOf St.cs 4 W (some ⟨g0, 0, none⟩) (n + 1) (dive ++ [stayS l g m])) =>
            (show Calls Tryz.prog 17 #[t.tab, t.man, .slice (some ⟨g0, 0, none⟩) (n + 1) cap] W fun e w' => e = .returned (.tuple #[.bool false, .int .i64 0]) ∧ Below W.heap.size W w' by
              have := Surely_c t hsm (some ⟨g0, 0, none⟩) (n + 1) cap (dive ++ [stayS l g m]) (by omega) W (hi.keep hb) hsl
              rw [hR] at this; exact this)
          have HSw := Lib.hid fun (m : Int) (hR : sureF t ((dive ++ [stayS l g m]) ++ [stayS a a b]) = (false, 0)) (W : World) (hb : Below w.heap.size w W) (g0 cap : Nat) (hsl : SlOf St.cs 4 W (some ⟨g0, 0, none⟩) (n + 1 + 1) ((dive ++ [stayS l g m]) ++ [stayS a a b])) =>
            (show Calls Tryz.prog 17 #[t.tab, t.man, .slice (some ⟨g0, 0, none⟩) (n + 1 + 1) cap] W fun e w' => e = .returned (.tuple #[.bool false, .int .i64 0]) ∧ Below W.heap.size W w' by
              have := Surely_c t hsm (some ⟨g0, 0, none⟩) (n + 1 + 1) cap ((dive ++ [stayS l g m]) ++ [stayS a a b]) (by omega) W (hi.keep hb) hsl
              rw [hR] at this; exact this)
          have hlb : listB t.ss a b = true → a ∈ t.ss ∧ 1 ≤ b ∧ b ≤ 30 := fun h => by
            simp only [listB, Bool.and_eq_true, decide_eq_true_eq] at h
            exact ⟨by simpa using h.1, h.2⟩
          generalize hlq : listB t.ss a b = lq at *
          clear hs hi hd hA hsm hdb hdl ho hlq
          by_cases hL0 : L = 0
          · subst hL0
            rw [show latV 0 = 0 from rfl, show latE 0 = 5 from rfl, show momC t (folS t.ps t.rs (h0, true) dive) l g 0 = (0, 0) from rfl, show momE (0, (0, 0), 5) = .tuple #[.int .i64 0, .agg #[.int .i64 0, .int .i64 0], .int .i64 5] from rfl] at HMo
            obtain ⟨e5, e6⟩ := e4 (by omega)
            have HSu := Lib.hid (HSv.out 0 e5)
            replace HSp := Lib.hid (HSp.out 0)
            have HS2' := fun h => Lib.hid (HSw.out 0 (e6 a b (hlb h).1 (hlb h).2.1 (hlb h).2.2))
            clear e1 e2 e3 e4 e5 e6 HSt HSv HSw hlb b1 b2
            have hm1 : 0 ≤ mn → ¬ mn ≤ -1 := by omega
            by_cases hm0 : 0 ≤ mn
            · replace hm1 := hm1 hm0
              cases lq
              · clear HS2' HSp
                obtain ⟨pA, sA, rA, pn, pc, sn, sc, rn, rc, ps, ss, rs⟩ := t
                simp only [Tm.tab, Tm.man] at *
                go_enter Tryz.func5, Tryz.ntmps5
                go_wp2_with (first
                  | (go_at_call 13; refine (HSh.out _).mono ?_; rintro e w13 ⟨rfl, hb⟩; have EE := Lib.hid (E0.out.keep hb); have ct := EE.out.tab.cell; have cm := EE.out.man.cell; have cs := EE.out.sp.cell; have co := EE.out.st.cell; clear hb)
                  | (go_at_call 14; refine (HFi.out _ EE.out.below).mono ?_; rintro e w14 ⟨rfl, hb⟩; replace EE := Lib.hid (EE.out.keep hb); replace ct := EE.out.tab.cell; replace cm := EE.out.man.cell; replace cs := EE.out.sp.cell; replace co := EE.out.st.cell; clear hb)
                  | (go_at_call 21; refine (HFa.out _).mono ?_; rintro e w21 ⟨rfl, hb⟩; replace EE := Lib.hid (EE.out.keep hb); replace ct := EE.out.tab.cell; replace cm := EE.out.man.cell; replace cs := EE.out.sp.cell; replace co := EE.out.st.cell; clear hb)
                  | (go_at_call 20; refine (HMo.out _ EE.out.below).mono ?_; rintro e w20 ⟨rfl, hb⟩; replace EE := Lib.hid (EE.out.keep hb); replace ct := EE.out.tab.cell; replace cm := EE.out.man.cell; replace cs := EE.out.sp.cell; replace co := EE.out.st.cell; clear hb)
                  | (refine wpList_store_all rfl 31 _ _ rfl w20.heap.size rfl _ rfl 31 _ (Has.new w20 31 _) (by kernel_rfl) rfl (by simp [Value.oneCell']) ?_; have hb := box_below (W := w20) #[.int .i64 0, .int .i64 0] #[.int .i64 0, .int .i64 0] 31; have XX := Lib.hid (box_has (W := w20) #[.int .i64 0, .int .i64 0] #[.int .i64 0, .int .i64 0] 31); have cx := XX.out.cell; replace EE := Lib.hid (EE.out.keep hb); replace ct := EE.out.tab.cell; replace cm := EE.out.man.cell; replace cs := EE.out.sp.cell; replace co := EE.out.st.cell; clear hb; generalize (w20.alloc (.cells #[.int .i64 0, .int .i64 0] 31)).setRow w20.heap.size #[.int .i64 0, .int .i64 0] = wS at *)
                  | (go_at_call 15; refine (knownLaw_c _).mono ?_; rintro e w15 ⟨rfl, hb⟩; have HB := Lib.hid (nextB EE.out.below hb); clear hb))
                apply wp_loose 7 (.v (.slice A n c) :: .v (.agg #[.int .i64 l, .int .i64 g]) :: .v (.int .i64 (-1)) :: .v (.int .i64 0) :: .v (.agg #[.int .i64 0, .int .i64 0]) :: .r (fun v w' => ∃ g0 cap, v = .slice (some ⟨g0, 0, none⟩) (n + 1) cap ∧ SlOf St.cs 4 w' (some ⟨g0, 0, none⟩) (n + 1) (dive ++ [stayS l g 0])) :: .r (fun v w' => ∃ g0 cap, v = .slice (some ⟨g0, 0, none⟩) (n + 1) cap ∧ SlOf St.cs 4 w' (some ⟨g0, 0, none⟩) (n + 1) (dive ++ [stayS l g 0])) :: []) (by kernel_rfl) (by kernel_rfl) (by kernel_rfl) (by decide) rfl
                intro K hK
                refine OblS.val (by kernel_rfl) (fun w' _ _ => (by kernel_rfl)) ?_
                refine OblS.row rfl 43 (.tmp 9) rfl (w.heap.size + 1 + 1) (by kernel_rfl) 43 _ _ EE.out.sp Tryz.underlying43 rfl (by kernel_rfl) ?_
                refine OblS.val (by kernel_rfl) (fun w' _ _ => (by kernel_rfl)) ?_
                refine OblS.val (by kernel_rfl) (fun w' _ _ => (by go_simp; try first | done | rfl)) ?_
                refine OblS.call 24 (by kernel_rfl) (fun w' hb _ => ⟨_, (by kernel_rfl), just1_c _ w'⟩) ?_
                refine OblS.callR 23 (by rintro v x y ⟨g0, cap, e, h⟩ hb; exact ⟨g0, cap, e, h.keep hb⟩) (by kernel_rfl) (fun w' hb _ => ⟨#[.slice A n c, .agg #[.int .i64 l, .int .i64 g], .agg #[.int .i64 0, .int .i64 0]], (by kernel_rfl), (HMr.out _ w' (nextB EE.out.below hb)).mono fun e x ⟨g0, cap, h1, h2, h3⟩ => ⟨_, h1, ⟨g0, cap, rfl, h2⟩, h3⟩⟩) ?_
                intro vm
                refine OblS.run (by rintro v x y ⟨g0, cap, e, h⟩ hb; exact ⟨g0, cap, e, h.keep hb⟩) (by kernel_rfl) (fun w' hb hH => ?_) ?_
                · obtain ⟨g0, cap, e, hsl⟩ := hH _ (List.mem_cons_self ..) (by kernel_rfl)
                  exact ⟨vm, w', (by kernel_rfl), ⟨g0, cap, e, hsl⟩, Below.refl _ _⟩
                intro vn
                apply OblS.nil
                apply hK
                intro w5 hb hH
                obtain ⟨g0, cap, rfl, hsl⟩ := hH _ (List.mem_cons_self ..)
                have HLg := Lib.hid hsl
                clear hH hK K hsl
                simp only [Act.put, List.setIfInBounds_toArray, List.set_cons_zero, List.set_cons_succ, List.drop_succ_cons, List.drop_zero]
                replace EE := Lib.hid (EE.out.keep hb); replace XX := Lib.hid (XX.out.after hb); replace cx := XX.out.cell; replace ct := EE.out.tab.cell; replace cm := EE.out.man.cell; replace cs := EE.out.sp.cell; replace co := EE.out.st.cell; clear hb
                go_wp2_with (first
                  | (go_at_call 17; refine (HSu.out _ EE.out.below _ _ HLg.out).mono ?_; rintro e w17 ⟨rfl, hb⟩; replace EE := Lib.hid (EE.out.keep hb); replace XX := Lib.hid (XX.out.after hb); replace cx := XX.out.cell; replace HLg := Lib.hid (HLg.out.keep hb); replace ct := EE.out.tab.cell; replace cm := EE.out.man.cell; replace cs := EE.out.sp.cell; replace co := EE.out.st.cell; clear hb)
                  | (go_at_call 18; refine (HLs.out _ EE.out.below).mono ?_; rintro e w18 ⟨rfl, hb⟩; replace EE := Lib.hid (EE.out.keep hb); replace XX := Lib.hid (XX.out.after hb); replace cx := XX.out.cell; replace HLg := Lib.hid (HLg.out.keep hb); replace ct := EE.out.tab.cell; replace cm := EE.out.man.cell; replace cs := EE.out.sp.cell; replace co := EE.out.st.cell; clear hb)
                  | (go_at_call 15; refine (knownLaw_c _).mono ?_; rintro e w15 ⟨rfl, hb⟩; have HB := Lib.hid (nextB EE.out.below hb); clear hb))
                exact bodyPost_ret (results_tmp rfl _ _ _) rfl ⟨rfl, HB.out⟩
              · have HS2 := HS2' rfl
                clear HS2'
                obtain ⟨pA, sA, rA, pn, pc, sn, sc, rn, rc, ps, ss, rs⟩ := t
                simp only [Tm.tab, Tm.man] at *
                go_enter Tryz.func5, Tryz.ntmps5
                go_wp2_with (first
                  | (go_at_call 13; refine (HSh.out _).mono ?_; rintro e w13 ⟨rfl, hb⟩; have EE := Lib.hid (E0.out.keep hb); have ct := EE.out.tab.cell; have cm := EE.out.man.cell; have cs := EE.out.sp.cell; have co := EE.out.st.cell; clear hb)
                  | (go_at_call 14; refine (HFi.out _ EE.out.below).mono ?_; rintro e w14 ⟨rfl, hb⟩; replace EE := Lib.hid (EE.out.keep hb); replace ct := EE.out.tab.cell; replace cm := EE.out.man.cell; replace cs := EE.out.sp.cell; replace co := EE.out.st.cell; clear hb)
                  | (go_at_call 21; refine (HFa.out _).mono ?_; rintro e w21 ⟨rfl, hb⟩; replace EE := Lib.hid (EE.out.keep hb); replace ct := EE.out.tab.cell; replace cm := EE.out.man.cell; replace cs := EE.out.sp.cell; replace co := EE.out.st.cell; clear hb)
                  | (go_at_call 20; refine (HMo.out _ EE.out.below).mono ?_; rintro e w20 ⟨rfl, hb⟩; replace EE := Lib.hid (EE.out.keep hb); replace ct := EE.out.tab.cell; replace cm := EE.out.man.cell; replace cs := EE.out.sp.cell; replace co := EE.out.st.cell; clear hb)
                  | (refine wpList_store_all rfl 31 _ _ rfl w20.heap.size rfl _ rfl 31 _ (Has.new w20 31 _) (by kernel_rfl) rfl (by simp [Value.oneCell']) ?_; have hb := box_below (W := w20) #[.int .i64 0, .int .i64 0] #[.int .i64 0, .int .i64 0] 31; have XX := Lib.hid (box_has (W := w20) #[.int .i64 0, .int .i64 0] #[.int .i64 0, .int .i64 0] 31); have cx := XX.out.cell; replace EE := Lib.hid (EE.out.keep hb); replace ct := EE.out.tab.cell; replace cm := EE.out.man.cell; replace cs := EE.out.sp.cell; replace co := EE.out.st.cell; clear hb; generalize (w20.alloc (.cells #[.int .i64 0, .int .i64 0] 31)).setRow w20.heap.size #[.int .i64 0, .int .i64 0] = wS at *)
                  | (go_at_call 15; refine (knownLaw_c _).mono ?_; rintro e w15 ⟨rfl, hb⟩; have HB := Lib.hid (nextB EE.out.below hb); clear hb))
                apply wp_loose 7 (.v (.slice A n c) :: .v (.agg #[.int .i64 l, .int .i64 g]) :: .v (.int .i64 (-1)) :: .v (.int .i64 0) :: .v (.agg #[.int .i64 0, .int .i64 0]) :: .r (fun v w' => ∃ g0 cap, v = .slice (some ⟨g0, 0, none⟩) (n + 1) cap ∧ SlOf St.cs 4 w' (some ⟨g0, 0, none⟩) (n + 1) (dive ++ [stayS l g 0])) :: .r (fun v w' => ∃ g0 cap, v = .slice (some ⟨g0, 0, none⟩) (n + 1) cap ∧ SlOf St.cs 4 w' (some ⟨g0, 0, none⟩) (n + 1) (dive ++ [stayS l g 0])) :: []) (by kernel_rfl) (by kernel_rfl) (by kernel_rfl) (by decide) rfl
                intro K hK
                refine OblS.val (by kernel_rfl) (fun w' _ _ => (by kernel_rfl)) ?_
                refine OblS.row rfl 43 (.tmp 9) rfl (w.heap.size + 1 + 1) (by kernel_rfl) 43 _ _ EE.out.sp Tryz.underlying43 rfl (by kernel_rfl) ?_
                refine OblS.val (by kernel_rfl) (fun w' _ _ => (by kernel_rfl)) ?_
                refine OblS.val (by kernel_rfl) (fun w' _ _ => (by go_simp; try first | done | rfl)) ?_
                refine OblS.call 24 (by kernel_rfl) (fun w' hb _ => ⟨_, (by kernel_rfl), just1_c _ w'⟩) ?_
                refine OblS.callR 23 (by rintro v x y ⟨g0, cap, e, h⟩ hb; exact ⟨g0, cap, e, h.keep hb⟩) (by kernel_rfl) (fun w' hb _ => ⟨#[.slice A n c, .agg #[.int .i64 l, .int .i64 g], .agg #[.int .i64 0, .int .i64 0]], (by kernel_rfl), (HMr.out _ w' (nextB EE.out.below hb)).mono fun e x ⟨g0, cap, h1, h2, h3⟩ => ⟨_, h1, ⟨g0, cap, rfl, h2⟩, h3⟩⟩) ?_
                intro vm
                refine OblS.run (by rintro v x y ⟨g0, cap, e, h⟩ hb; exact ⟨g0, cap, e, h.keep hb⟩) (by kernel_rfl) (fun w' hb hH => ?_) ?_
                · obtain ⟨g0, cap, e, hsl⟩ := hH _ (List.mem_cons_self ..) (by kernel_rfl)
                  exact ⟨vm, w', (by kernel_rfl), ⟨g0, cap, e, hsl⟩, Below.refl _ _⟩
                intro vn
                apply OblS.nil
                apply hK
                intro w5 hb hH
                obtain ⟨g0, cap, rfl, hsl⟩ := hH _ (List.mem_cons_self ..)
                have HLg := Lib.hid hsl
                clear hH hK K hsl
                simp only [Act.put, List.setIfInBounds_toArray, List.set_cons_zero, List.set_cons_succ, List.drop_succ_cons, List.drop_zero]
                replace EE := Lib.hid (EE.out.keep hb); replace XX := Lib.hid (XX.out.after hb); replace cx := XX.out.cell; replace ct := EE.out.tab.cell; replace cm := EE.out.man.cell; replace cs := EE.out.sp.cell; replace co := EE.out.st.cell; clear hb
                go_wp2_with (first
                  | (go_at_call 17; refine (HSu.out _ EE.out.below _ _ HLg.out).mono ?_; rintro e w17 ⟨rfl, hb⟩; replace EE := Lib.hid (EE.out.keep hb); replace XX := Lib.hid (XX.out.after hb); replace cx := XX.out.cell; replace HLg := Lib.hid (HLg.out.keep hb); replace ct := EE.out.tab.cell; replace cm := EE.out.man.cell; replace cs := EE.out.sp.cell; replace co := EE.out.st.cell; clear hb)
                  | (go_at_call 18; refine (HLs.out _ EE.out.below).mono ?_; rintro e w18 ⟨rfl, hb⟩; replace EE := Lib.hid (EE.out.keep hb); replace XX := Lib.hid (XX.out.after hb); replace cx := XX.out.cell; replace HLg := Lib.hid (HLg.out.keep hb); replace ct := EE.out.tab.cell; replace cm := EE.out.man.cell; replace cs := EE.out.sp.cell; replace co := EE.out.st.cell; clear hb)
                  | (go_at_call 15; refine (knownLaw_c _).mono ?_; rintro e w15 ⟨rfl, hb⟩; have HB := Lib.hid (nextB EE.out.below hb); clear hb))
                apply wp_loose 11 (.v (.agg #[.slice pA pn pc, .slice sA sn sc]) :: .v (.agg #[.slice rA rn rc]) :: .v (.slice (some ⟨g0, 0, none⟩) (n + 1) cap) :: .v (.agg #[.int .i64 a, .int .i64 b]) :: .r (fun v w' => ∃ g1 cap1, v = .slice (some ⟨g1, 0, none⟩) (n + 1 + 1) cap1 ∧ SlOf St.cs 4 w' (some ⟨g1, 0, none⟩) (n + 1 + 1) ((dive ++ [stayS l g 0]) ++ [stayS a a b])) :: .v (.tuple #[.bool false, .int .i64 0]) :: .v (.tuple #[.bool false, .int .i64 0]) :: .v (.bool false) :: .v (.int .i64 0) :: .v (.bool false) :: .v (.int .i64 0) :: []) (by kernel_rfl) (by kernel_rfl) (by kernel_rfl) (by decide) rfl
                intro K hK
                refine OblS.row rfl 25 (.tmp 6) rfl w.heap.size (by kernel_rfl) 25 _ _ EE.out.tab Tryz.underlying25 rfl (by kernel_rfl) ?_
                refine OblS.row rfl 28 (.tmp 7) rfl (w.heap.size + 1) (by kernel_rfl) 28 _ _ EE.out.man Tryz.underlying28 rfl (by kernel_rfl) ?_
                refine OblS.val (by kernel_rfl) (fun w' _ _ => (by kernel_rfl)) ?_
                refine OblS.row rfl 31 (.tmp 11) rfl (w.heap.size + 1 + 1 + 1) (by kernel_rfl) 31 _ _ EE.out.st Tryz.underlying31 rfl (by kernel_rfl) ?_
                refine OblS.callR 19 (by rintro v x y ⟨g0, cap, e, h⟩ hb; exact ⟨g0, cap, e, h.keep hb⟩) (by kernel_rfl) (fun w' hb _ => ⟨#[.slice (some ⟨g0, 0, none⟩) (n + 1) cap, .agg #[.int .i64 a, .int .i64 b]], (by kernel_rfl), (HSp.out w' g0 cap (HLg.out.keep hb)).mono fun e x ⟨g0, cap, h1, h2, h3⟩ => ⟨_, h1, ⟨g0, cap, rfl, h2⟩, h3⟩⟩) ?_
                intro vs
                refine OblS.call 17 (by kernel_rfl) (fun w' hb hH => ?_) ?_
                · obtain ⟨g1, cap1, rfl, hsl⟩ := hH _ (List.mem_cons_self ..) (by kernel_rfl)
                  exact ⟨#[.agg #[.slice pA pn pc, .slice sA sn sc], .agg #[.slice rA rn rc], .slice (some ⟨g1, 0, none⟩) (n + 1 + 1) cap1], (by kernel_rfl), HS2.out w' (nextB EE.out.below hb) g1 cap1 hsl⟩
                iterate 5 refine OblS.val (by kernel_rfl) (fun w' _ _ => (by kernel_rfl)) ?_
                apply OblS.nil
                apply hK
                intro w6 hb hH
                clear hH hK K
                simp only [Act.put, List.setIfInBounds_toArray, List.set_cons_zero, List.set_cons_succ, List.drop_succ_cons, List.drop_zero]
                replace EE := Lib.hid (EE.out.keep hb); replace ct := EE.out.tab.cell; replace cm := EE.out.man.cell; replace cs := EE.out.sp.cell; replace co := EE.out.st.cell; clear hb
                go_wp2_with (first
                  | (go_at_call 15; refine (knownLaw_c _).mono ?_; rintro e w15 ⟨rfl, hb⟩; have HB := Lib.hid (nextB EE.out.below hb); clear hb))
                exact bodyPost_ret (results_tmp rfl _ _ _) rfl ⟨rfl, HB.out⟩
            · clear hm1
              cases lq
              · clear HS2' HSp
                obtain ⟨pA, sA, rA, pn, pc, sn, sc, rn, rc, ps, ss, rs⟩ := t
                simp only [Tm.tab, Tm.man] at *
                go_enter Tryz.func5, Tryz.ntmps5
                go_wp2_with (first
                  | (go_at_call 13; refine (HSh.out _).mono ?_; rintro e w13 ⟨rfl, hb⟩; have EE := Lib.hid (E0.out.keep hb); have ct := EE.out.tab.cell; have cm := EE.out.man.cell; have cs := EE.out.sp.cell; have co := EE.out.st.cell; clear hb)
                  | (go_at_call 14; refine (HFi.out _ EE.out.below).mono ?_; rintro e w14 ⟨rfl, hb⟩; replace EE := Lib.hid (EE.out.keep hb); replace ct := EE.out.tab.cell; replace cm := EE.out.man.cell; replace cs := EE.out.sp.cell; replace co := EE.out.st.cell; clear hb)
                  | (go_at_call 21; refine (HFa.out _).mono ?_; rintro e w21 ⟨rfl, hb⟩; replace EE := Lib.hid (EE.out.keep hb); replace ct := EE.out.tab.cell; replace cm := EE.out.man.cell; replace cs := EE.out.sp.cell; replace co := EE.out.st.cell; clear hb)
                  | (go_at_call 20; refine (HMo.out _ EE.out.below).mono ?_; rintro e w20 ⟨rfl, hb⟩; replace EE := Lib.hid (EE.out.keep hb); replace ct := EE.out.tab.cell; replace cm := EE.out.man.cell; replace cs := EE.out.sp.cell; replace co := EE.out.st.cell; clear hb)
                  | (refine wpList_store_all rfl 31 _ _ rfl w20.heap.size rfl _ rfl 31 _ (Has.new w20 31 _) (by kernel_rfl) rfl (by simp [Value.oneCell']) ?_; have hb := box_below (W := w20) #[.int .i64 0, .int .i64 0] #[.int .i64 0, .int .i64 0] 31; have XX := Lib.hid (box_has (W := w20) #[.int .i64 0, .int .i64 0] #[.int .i64 0, .int .i64 0] 31); have cx := XX.out.cell; replace EE := Lib.hid (EE.out.keep hb); replace ct := EE.out.tab.cell; replace cm := EE.out.man.cell; replace cs := EE.out.sp.cell; replace co := EE.out.st.cell; clear hb; generalize (w20.alloc (.cells #[.int .i64 0, .int .i64 0] 31)).setRow w20.heap.size #[.int .i64 0, .int .i64 0] = wS at *)
                  | (go_at_call 15; refine (knownLaw_c _).mono ?_; rintro e w15 ⟨rfl, hb⟩; have HB := Lib.hid (nextB EE.out.below hb); clear hb))
                apply wp_loose 7 (.v (.slice A n c) :: .v (.agg #[.int .i64 l, .int .i64 g]) :: .v (.int .i64 (-1)) :: .v (.int .i64 0) :: .v (.agg #[.int .i64 0, .int .i64 0]) :: .r (fun v w' => ∃ g0 cap, v = .slice (some ⟨g0, 0, none⟩) (n + 1) cap ∧ SlOf St.cs 4 w' (some ⟨g0, 0, none⟩) (n + 1) (dive ++ [stayS l g 0])) :: .r (fun v w' => ∃ g0 cap, v = .slice (some ⟨g0, 0, none⟩) (n + 1) cap ∧ SlOf St.cs 4 w' (some ⟨g0, 0, none⟩) (n + 1) (dive ++ [stayS l g 0])) :: []) (by kernel_rfl) (by kernel_rfl) (by kernel_rfl) (by decide) rfl
                intro K hK
                refine OblS.val (by kernel_rfl) (fun w' _ _ => (by kernel_rfl)) ?_
                refine OblS.row rfl 43 (.tmp 9) rfl (w.heap.size + 1 + 1) (by kernel_rfl) 43 _ _ EE.out.sp Tryz.underlying43 rfl (by kernel_rfl) ?_
                refine OblS.val (by kernel_rfl) (fun w' _ _ => (by kernel_rfl)) ?_
                refine OblS.val (by kernel_rfl) (fun w' _ _ => (by go_simp; try first | done | rfl)) ?_
                refine OblS.call 24 (by kernel_rfl) (fun w' hb _ => ⟨_, (by kernel_rfl), just1_c _ w'⟩) ?_
                refine OblS.callR 23 (by rintro v x y ⟨g0, cap, e, h⟩ hb; exact ⟨g0, cap, e, h.keep hb⟩) (by kernel_rfl) (fun w' hb _ => ⟨#[.slice A n c, .agg #[.int .i64 l, .int .i64 g], .agg #[.int .i64 0, .int .i64 0]], (by kernel_rfl), (HMr.out _ w' (nextB EE.out.below hb)).mono fun e x ⟨g0, cap, h1, h2, h3⟩ => ⟨_, h1, ⟨g0, cap, rfl, h2⟩, h3⟩⟩) ?_
                intro vm
                refine OblS.run (by rintro v x y ⟨g0, cap, e, h⟩ hb; exact ⟨g0, cap, e, h.keep hb⟩) (by kernel_rfl) (fun w' hb hH => ?_) ?_
                · obtain ⟨g0, cap, e, hsl⟩ := hH _ (List.mem_cons_self ..) (by kernel_rfl)
                  exact ⟨vm, w', (by kernel_rfl), ⟨g0, cap, e, hsl⟩, Below.refl _ _⟩
                intro vn
                apply OblS.nil
                apply hK
                intro w5 hb hH
                obtain ⟨g0, cap, rfl, hsl⟩ := hH _ (List.mem_cons_self ..)
                have HLg := Lib.hid hsl
                clear hH hK K hsl
                simp only [Act.put, List.setIfInBounds_toArray, List.set_cons_zero, List.set_cons_succ, List.drop_succ_cons, List.drop_zero]
                replace EE := Lib.hid (EE.out.keep hb); replace XX := Lib.hid (XX.out.after hb); replace cx := XX.out.cell; replace ct := EE.out.tab.cell; replace cm := EE.out.man.cell; replace cs := EE.out.sp.cell; replace co := EE.out.st.cell; clear hb
                go_wp2_with (first
                  | (go_at_call 17; refine (HSu.out _ EE.out.below _ _ HLg.out).mono ?_; rintro e w17 ⟨rfl, hb⟩; replace EE := Lib.hid (EE.out.keep hb); replace XX := Lib.hid (XX.out.after hb); replace cx := XX.out.cell; replace HLg := Lib.hid (HLg.out.keep hb); replace ct := EE.out.tab.cell; replace cm := EE.out.man.cell; replace cs := EE.out.sp.cell; replace co := EE.out.st.cell; clear hb)
                  | (go_at_call 18; refine (HLs.out _ EE.out.below).mono ?_; rintro e w18 ⟨rfl, hb⟩; replace EE := Lib.hid (EE.out.keep hb); replace XX := Lib.hid (XX.out.after hb); replace cx := XX.out.cell; replace HLg := Lib.hid (HLg.out.keep hb); replace ct := EE.out.tab.cell; replace cm := EE.out.man.cell; replace cs := EE.out.sp.cell; replace co := EE.out.st.cell; clear hb)
                  | (go_at_call 15; refine (knownLaw_c _).mono ?_; rintro e w15 ⟨rfl, hb⟩; have HB := Lib.hid (nextB EE.out.below hb); clear hb))
                exact bodyPost_ret (results_tmp rfl _ _ _) rfl ⟨rfl, HB.out⟩
              · have HS2 := HS2' rfl
                clear HS2'
                obtain ⟨pA, sA, rA, pn, pc, sn, sc, rn, rc, ps, ss, rs⟩ := t
                simp only [Tm.tab, Tm.man] at *
                go_enter Tryz.func5, Tryz.ntmps5
                go_wp2_with (first
                  | (go_at_call 13; refine (HSh.out _).mono ?_; rintro e w13 ⟨rfl, hb⟩; have EE := Lib.hid (E0.out.keep hb); have ct := EE.out.tab.cell; have cm := EE.out.man.cell; have cs := EE.out.sp.cell; have co := EE.out.st.cell; clear hb)
                  | (go_at_call 14; refine (HFi.out _ EE.out.below).mono ?_; rintro e w14 ⟨rfl, hb⟩; replace EE := Lib.hid (EE.out.keep hb); replace ct := EE.out.tab.cell; replace cm := EE.out.man.cell; replace cs := EE.out.sp.cell; replace co := EE.out.st.cell; clear hb)
                  | (go_at_call 21; refine (HFa.out _).mono ?_; rintro e w21 ⟨rfl, hb⟩; replace EE := Lib.hid (EE.out.keep hb); replace ct := EE.out.tab.cell; replace cm := EE.out.man.cell; replace cs := EE.out.sp.cell; replace co := EE.out.st.cell; clear hb)
                  | (go_at_call 20; refine (HMo.out _ EE.out.below).mono ?_; rintro e w20 ⟨rfl, hb⟩; replace EE := Lib.hid (EE.out.keep hb); replace ct := EE.out.tab.cell; replace cm := EE.out.man.cell; replace cs := EE.out.sp.cell; replace co := EE.out.st.cell; clear hb)
                  | (refine wpList_store_all rfl 31 _ _ rfl w20.heap.size rfl _ rfl 31 _ (Has.new w20 31 _) (by kernel_rfl) rfl (by simp [Value.oneCell']) ?_; have hb := box_below (W := w20) #[.int .i64 0, .int .i64 0] #[.int .i64 0, .int .i64 0] 31; have XX := Lib.hid (box_has (W := w20) #[.int .i64 0, .int .i64 0] #[.int .i64 0, .int .i64 0] 31); have cx := XX.out.cell; replace EE := Lib.hid (EE.out.keep hb); replace ct := EE.out.tab.cell; replace cm := EE.out.man.cell; replace cs := EE.out.sp.cell; replace co := EE.out.st.cell; clear hb; generalize (w20.alloc (.cells #[.int .i64 0, .int .i64 0] 31)).setRow w20.heap.size #[.int .i64 0, .int .i64 0] = wS at *)
                  | (go_at_call 15; refine (knownLaw_c _).mono ?_; rintro e w15 ⟨rfl, hb⟩; have HB := Lib.hid (nextB EE.out.below hb); clear hb))
                apply wp_loose 7 (.v (.slice A n c) :: .v (.agg #[.int .i64 l, .int .i64 g]) :: .v (.int .i64 (-1)) :: .v (.int .i64 0) :: .v (.agg #[.int .i64 0, .int .i64 0]) :: .r (fun v w' => ∃ g0 cap, v = .slice (some ⟨g0, 0, none⟩) (n + 1) cap ∧ SlOf St.cs 4 w' (some ⟨g0, 0, none⟩) (n + 1) (dive ++ [stayS l g 0])) :: .r (fun v w' => ∃ g0 cap, v = .slice (some ⟨g0, 0, none⟩) (n + 1) cap ∧ SlOf St.cs 4 w' (some ⟨g0, 0, none⟩) (n + 1) (dive ++ [stayS l g 0])) :: []) (by kernel_rfl) (by kernel_rfl) (by kernel_rfl) (by decide) rfl
                intro K hK
                refine OblS.val (by kernel_rfl) (fun w' _ _ => (by kernel_rfl)) ?_
                refine OblS.row rfl 43 (.tmp 9) rfl (w.heap.size + 1 + 1) (by kernel_rfl) 43 _ _ EE.out.sp Tryz.underlying43 rfl (by kernel_rfl) ?_
                refine OblS.val (by kernel_rfl) (fun w' _ _ => (by kernel_rfl)) ?_
                refine OblS.val (by kernel_rfl) (fun w' _ _ => (by go_simp; try first | done | rfl)) ?_
                refine OblS.call 24 (by kernel_rfl) (fun w' hb _ => ⟨_, (by kernel_rfl), just1_c _ w'⟩) ?_
                refine OblS.callR 23 (by rintro v x y ⟨g0, cap, e, h⟩ hb; exact ⟨g0, cap, e, h.keep hb⟩) (by kernel_rfl) (fun w' hb _ => ⟨#[.slice A n c, .agg #[.int .i64 l, .int .i64 g], .agg #[.int .i64 0, .int .i64 0]], (by kernel_rfl), (HMr.out _ w' (nextB EE.out.below hb)).mono fun e x ⟨g0, cap, h1, h2, h3⟩ => ⟨_, h1, ⟨g0, cap, rfl, h2⟩, h3⟩⟩) ?_
                intro vm
                refine OblS.run (by rintro v x y ⟨g0, cap, e, h⟩ hb; exact ⟨g0, cap, e, h.keep hb⟩) (by kernel_rfl) (fun w' hb hH => ?_) ?_
                · obtain ⟨g0, cap, e, hsl⟩ := hH _ (List.mem_cons_self ..) (by kernel_rfl)
                  exact ⟨vm, w', (by kernel_rfl), ⟨g0, cap, e, hsl⟩, Below.refl _ _⟩
                intro vn
                apply OblS.nil
                apply hK
                intro w5 hb hH
                obtain ⟨g0, cap, rfl, hsl⟩ := hH _ (List.mem_cons_self ..)
                have HLg := Lib.hid hsl
                clear hH hK K hsl
                simp only [Act.put, List.setIfInBounds_toArray, List.set_cons_zero, List.set_cons_succ, List.drop_succ_cons, List.drop_zero]
                replace EE := Lib.hid (EE.out.keep hb); replace XX := Lib.hid (XX.out.after hb); replace cx := XX.out.cell; replace ct := EE.out.tab.cell; replace cm := EE.out.man.cell; replace cs := EE.out.sp.cell; replace co := EE.out.st.cell; clear hb
                go_wp2_with (first
                  | (go_at_call 17; refine (HSu.out _ EE.out.below _ _ HLg.out).mono ?_; rintro e w17 ⟨rfl, hb⟩; replace EE := Lib.hid (EE.out.keep hb); replace XX := Lib.hid (XX.out.after hb); replace cx := XX.out.cell; replace HLg := Lib.hid (HLg.out.keep hb); replace ct := EE.out.tab.cell; replace cm := EE.out.man.cell; replace cs := EE.out.sp.cell; replace co := EE.out.st.cell; clear hb)
                  | (go_at_call 18; refine (HLs.out _ EE.out.below).mono ?_; rintro e w18 ⟨rfl, hb⟩; replace EE := Lib.hid (EE.out.keep hb); replace XX := Lib.hid (XX.out.after hb); replace cx := XX.out.cell; replace HLg := Lib.hid (HLg.out.keep hb); replace ct := EE.out.tab.cell; replace cm := EE.out.man.cell; replace cs := EE.out.sp.cell; replace co := EE.out.st.cell; clear hb)
                  | (go_at_call 15; refine (knownLaw_c _).mono ?_; rintro e w15 ⟨rfl, hb⟩; have HB := Lib.hid (nextB EE.out.below hb); clear hb))
                apply wp_loose 11 (.v (.agg #[.slice pA pn pc, .slice sA sn sc]) :: .v (.agg #[.slice rA rn rc]) :: .v (.slice (some ⟨g0, 0, none⟩) (n + 1) cap) :: .v (.agg #[.int .i64 a, .int .i64 b]) :: .r (fun v w' => ∃ g1 cap1, v = .slice (some ⟨g1, 0, none⟩) (n + 1 + 1) cap1 ∧ SlOf St.cs 4 w' (some ⟨g1, 0, none⟩) (n + 1 + 1) ((dive ++ [stayS l g 0]) ++ [stayS a a b])) :: .v (.tuple #[.bool false, .int .i64 0]) :: .v (.tuple #[.bool false, .int .i64 0]) :: .v (.bool false) :: .v (.int .i64 0) :: .v (.bool false) :: .v (.int .i64 0) :: []) (by kernel_rfl) (by kernel_rfl) (by kernel_rfl) (by decide) rfl
                intro K hK
                refine OblS.row rfl 25 (.tmp 6) rfl w.heap.size (by kernel_rfl) 25 _ _ EE.out.tab Tryz.underlying25 rfl (by kernel_rfl) ?_
                refine OblS.row rfl 28 (.tmp 7) rfl (w.heap.size + 1) (by kernel_rfl) 28 _ _ EE.out.man Tryz.underlying28 rfl (by kernel_rfl) ?_
                refine OblS.val (by kernel_rfl) (fun w' _ _ => (by kernel_rfl)) ?_
                refine OblS.row rfl 31 (.tmp 11) rfl (w.heap.size + 1 + 1 + 1) (by kernel_rfl) 31 _ _ EE.out.st Tryz.underlying31 rfl (by kernel_rfl) ?_
                refine OblS.callR 19 (by rintro v x y ⟨g0, cap, e, h⟩ hb; exact ⟨g0, cap, e, h.keep hb⟩) (by kernel_rfl) (fun w' hb _ => ⟨#[.slice (some ⟨g0, 0, none⟩) (n + 1) cap, .agg #[.int .i64 a, .int .i64 b]], (by kernel_rfl), (HSp.out w' g0 cap (HLg.out.keep hb)).mono fun e x ⟨g0, cap, h1, h2, h3⟩ => ⟨_, h1, ⟨g0, cap, rfl, h2⟩, h3⟩⟩) ?_
                intro vs
                refine OblS.call 17 (by kernel_rfl) (fun w' hb hH => ?_) ?_
                · obtain ⟨g1, cap1, rfl, hsl⟩ := hH _ (List.mem_cons_self ..) (by kernel_rfl)
                  exact ⟨#[.agg #[.slice pA pn pc, .slice sA sn sc], .agg #[.slice rA rn rc], .slice (some ⟨g1, 0, none⟩) (n + 1 + 1) cap1], (by kernel_rfl), HS2.out w' (nextB EE.out.below hb) g1 cap1 hsl⟩
                iterate 5 refine OblS.val (by kernel_rfl) (fun w' _ _ => (by kernel_rfl)) ?_
                apply OblS.nil
                apply hK
                intro w6 hb hH
                clear hH hK K
                simp only [Act.put, List.setIfInBounds_toArray, List.set_cons_zero, List.set_cons_succ, List.drop_succ_cons, List.drop_zero]
                replace EE := Lib.hid (EE.out.keep hb); replace ct := EE.out.tab.cell; replace cm := EE.out.man.cell; replace cs := EE.out.sp.cell; replace co := EE.out.st.cell; clear hb
                go_wp2_with (first
                  | (go_at_call 15; refine (knownLaw_c _).mono ?_; rintro e w15 ⟨rfl, hb⟩; have HB := Lib.hid (nextB EE.out.below hb); clear hb))
                exact bodyPost_ret (results_tmp rfl _ _ _) rfl ⟨rfl, HB.out⟩
          · obtain ⟨k, rfl⟩ : ∃ k, L = k + 1 := ⟨L - 1, by omega⟩
            rw [show latV (k + 1) = k by simp [latV, hL0], show latE (k + 1) = 0 by simp [latE, hL0]] at HMo
            replace e2 := e2 (by omega)
            rw [show k + 1 - 1 = k by omega] at e2
            generalize momC t (folS t.ps t.rs (h0, true) dive) l g (k + 1) = cc at *
            obtain ⟨c1, c2⟩ := cc
            rw [show momE (k, (c1, c2), 0) = .tuple #[.int .i64 k, .agg #[.int .i64 c1, .int .i64 c2], .int .i64 0] from rfl] at HMo
            have HS0 := Lib.hid (HSt.out k c1 c2 e2)
            have hx1 : ¬ k < 0 := by omega
            have hx2 : ¬ k > 40 := by omega
            have hwk : IntKind.i64.wrap (k + 1) = k + 1 := wI (by omega) (by omega)
            have HSmm : 0 ≤ mn → mn ≤ k → ∃ e1 e2, Hid (∀ (W : World) (hb : Below w.heap.size w W) (g0 cap : Nat) (hsl : SlOf St.cs 4 W (some ⟨g0, 0, none⟩) (n + 1) (dive ++ [stayS l g mn])), Calls Tryz.prog 16 #[t.tab, t.man, .slice (some ⟨g0, 0, none⟩) (n + 1) cap] W fun e w' => e = .returned (.tuple #[.agg #[.int .i64 e1, .int .i64 e2], .int .i64 0]) ∧ Below W.heap.size W w') := fun h1 h2 => by
              have h3 := e3 mn h1 (by omega)
              generalize hq : stopF t (dive ++ [stayS l g mn]) = q at h3
              obtain ⟨⟨e1, e2⟩, e0⟩ := q
              simp only at h3
              subst h3
              exact ⟨e1, e2, Lib.hid (HSt.out mn e1 e2 hq)⟩
            by_cases hk : k = 40
            · clear e1 e2 e3 e4 HSt HSv HSw HSp HLs hlb hL0 b1 b2
              subst hk
              by_cases hm0 : 0 ≤ mn
              · by_cases hm1 : mn ≤ 40
                · obtain ⟨e1, e2, HSm⟩ := HSmm hm0 hm1
                  clear HSmm
                  obtain ⟨pA, sA, rA, pn, pc, sn, sc, rn, rc, ps, ss, rs⟩ := t
                  simp only [Tm.tab, Tm.man] at *
                  go_enter Tryz.func5, Tryz.ntmps5
                  go_wp2_with (first
                    | (go_at_call 13; refine (HSh.out _).mono ?_; rintro e w13 ⟨rfl, hb⟩; have EE := Lib.hid (E0.out.keep hb); have ct := EE.out.tab.cell; have cm := EE.out.man.cell; have cs := EE.out.sp.cell; have co := EE.out.st.cell; clear hb)
                    | (go_at_call 14; refine (HFi.out _ EE.out.below).mono ?_; rintro e w14 ⟨rfl, hb⟩; replace EE := Lib.hid (EE.out.keep hb); replace ct := EE.out.tab.cell; replace cm := EE.out.man.cell; replace cs := EE.out.sp.cell; replace co := EE.out.st.cell; clear hb)
                    | (go_at_call 21; refine (HFa.out _).mono ?_; rintro e w21 ⟨rfl, hb⟩; replace EE := Lib.hid (EE.out.keep hb); replace ct := EE.out.tab.cell; replace cm := EE.out.man.cell; replace cs := EE.out.sp.cell; replace co := EE.out.st.cell; clear hb)
                    | (go_at_call 20; refine (HMo.out _ EE.out.below).mono ?_; rintro e w20 ⟨rfl, hb⟩; replace EE := Lib.hid (EE.out.keep hb); replace ct := EE.out.tab.cell; replace cm := EE.out.man.cell; replace cs := EE.out.sp.cell; replace co := EE.out.st.cell; clear hb)
                    | (refine wpList_store_all rfl 31 _ _ rfl w20.heap.size rfl _ rfl 31 _ (Has.new w20 31 _) (by kernel_rfl) rfl (by simp [Value.oneCell']) ?_; have hb := box_below (W := w20) #[.int .i64 0, .int .i64 0] #[.int .i64 c1, .int .i64 c2] 31; have XX := Lib.hid (box_has (W := w20) #[.int .i64 0, .int .i64 0] #[.int .i64 c1, .int .i64 c2] 31); have cx := XX.out.cell; replace EE := Lib.hid (EE.out.keep hb); replace ct := EE.out.tab.cell; replace cm := EE.out.man.cell; replace cs := EE.out.sp.cell; replace co := EE.out.st.cell; clear hb; generalize (w20.alloc (.cells #[.int .i64 0, .int .i64 0] 31)).setRow w20.heap.size #[.int .i64 c1, .int .i64 c2] = wS at *)
                    | (go_at_call 15; refine (knownLaw_c _).mono ?_; rintro e w15 ⟨rfl, hb⟩; have HB := Lib.hid (nextB EE.out.below hb); clear hb))
                  apply wp_floats 12 10 [.v (.agg #[.slice pA pn pc, .slice sA sn sc]), .v (.agg #[.slice rA rn rc]), .v (.slice A n c), .v (.agg #[.int .i64 l, .int .i64 g]), .v (.int .i64 40), .v (.agg #[.int .i64 40, .int .i64 40]), .r (fun v w' => ∃ g0 cap, v = .slice (some ⟨g0, 0, none⟩) (n + 1) cap ∧ SlOf St.cs 4 w' (some ⟨g0, 0, none⟩) (n + 1) (dive ++ [stayS l g 40])), .v (.tuple #[.agg #[.int .i64 c1, .int .i64 c2], .int .i64 0]), .v (.tuple #[.agg #[.int .i64 c1, .int .i64 c2], .int .i64 0]), .v (.agg #[.int .i64 c1, .int .i64 c2]), .p (.int .i64 0), .r (NewR wS 31 #[.int .i64 0, .int .i64 0])] (by kernel_rfl) (by kernel_rfl) (by kernel_rfl) (by decide) rfl (by decide) rfl rfl (by kernel_rfl)
                  intro K hK
                  refine OblS.row rfl 25 (.tmp 6) rfl w.heap.size (by kernel_rfl) 25 _ _ EE.out.tab Tryz.underlying25 rfl (by kernel_rfl) ?_
                  refine OblS.row rfl 28 (.tmp 7) rfl (w.heap.size + 1) (by kernel_rfl) 28 _ _ EE.out.man Tryz.underlying28 rfl (by kernel_rfl) ?_
                  refine OblS.val (by kernel_rfl) (fun w' _ _ => (by kernel_rfl)) ?_
                  refine OblS.row rfl 43 (.tmp 9) rfl (w.heap.size + 1 + 1) (by kernel_rfl) 43 _ _ EE.out.sp Tryz.underlying43 rfl (by kernel_rfl) ?_
                  refine OblS.val (by kernel_rfl) (fun w' _ _ => (by kernel_rfl)) ?_
                  refine OblS.call 24 (by kernel_rfl) (fun w' hb _ => ⟨_, (by kernel_rfl), just1_c _ w'⟩) ?_
                  refine OblS.callR 23 (by rintro v x y ⟨g0, cap, e, h⟩ hb; exact ⟨g0, cap, e, h.keep hb⟩) (by kernel_rfl) (fun w' hb _ => ⟨#[.slice A n c, .agg #[.int .i64 l, .int .i64 g], .agg #[.int .i64 40, .int .i64 40]], (by kernel_rfl), (HMr.out _ w' (nextB EE.out.below hb)).mono fun e x ⟨g0, cap, h1, h2, h3⟩ => ⟨_, h1, ⟨g0, cap, rfl, h2⟩, h3⟩⟩) ?_
                  intro vm
                  refine OblS.call 16 (by kernel_rfl) (fun w' hb hH => ?_) ?_
                  · obtain ⟨g0, cap, rfl, hsl⟩ := hH _ (List.mem_cons_self ..) (by kernel_rfl)
                    exact ⟨#[.agg #[.slice pA pn pc, .slice sA sn sc], .agg #[.slice rA rn rc], .slice (some ⟨g0, 0, none⟩) (n + 1) cap], (by kernel_rfl), HS0.out w' (nextB EE.out.below hb) g0 cap hsl⟩
                  refine OblS.val (by kernel_rfl) (fun w' _ _ => (by kernel_rfl)) ?_
                  refine OblS.val (by kernel_rfl) (fun w' _ _ => (by kernel_rfl)) ?_
                  refine OblS.pure (by kernel_rfl) (fun w' => (by kernel_rfl)) ?_
                  refine OblS.makes ⟨rfl, fun a w => by kernel_rfl⟩ ?_
                  intro vb
                  apply OblS.nil
                  apply hK
                  intro w2 hb hH
                  obtain ⟨B, rfl, hB1, hB2⟩ := hH _ (List.mem_cons_self ..)
                  clear hH hK K
                  simp only [Act.put, List.setIfInBounds_toArray, List.set_cons_zero, List.set_cons_succ, List.drop_succ_cons, List.drop_zero]
                  have HBx := Lib.hid hB2
                  dsimp only [OnlyN, Exit.then]
                  go_wp2_with (first
                    | (refine wpList_store_all rfl 31 _ _ rfl B rfl _ rfl 31 _ HBx.out (by kernel_rfl) rfl (by simp [Value.oneCell']) ?_; have hb3 := rowB hb hB1 #[.int .i64 c1, .int .i64 c2]; have YY := Lib.hid (HBx.out.setRow #[.int .i64 c1, .int .i64 c2]); generalize w2.setRow B #[.int .i64 c1, .int .i64 c2] = wT at *; have cYY := YY.out.cell; replace EE := Lib.hid (EE.out.keep hb3); replace XX := Lib.hid (XX.out.after hb3); replace cx := XX.out.cell; replace ct := EE.out.tab.cell; replace cm := EE.out.man.cell; replace cs := EE.out.sp.cell; replace co := EE.out.st.cell; clear hb hb3 hB1 hB2 HBx)
                    | (go_at_call 15; refine (knownLaw_c _).mono ?_; rintro e w15 ⟨rfl, hb⟩; have HB := Lib.hid (nextB EE.out.below hb); clear hb))
                  apply wp_floats 12 10 [.v (.agg #[.slice pA pn pc, .slice sA sn sc]), .v (.agg #[.slice rA rn rc]), .v (.slice A n c), .v (.agg #[.int .i64 l, .int .i64 g]), .v (.int .i64 mn), .v (.agg #[.int .i64 mn, .int .i64 mn]), .r (fun v w' => ∃ g0 cap, v = .slice (some ⟨g0, 0, none⟩) (n + 1) cap ∧ SlOf St.cs 4 w' (some ⟨g0, 0, none⟩) (n + 1) (dive ++ [stayS l g mn])), .v (.tuple #[.agg #[.int .i64 e1, .int .i64 e2], .int .i64 0]), .v (.tuple #[.agg #[.int .i64 e1, .int .i64 e2], .int .i64 0]), .v (.agg #[.int .i64 e1, .int .i64 e2]), .p (.int .i64 0), .r (NewR wT 31 #[.int .i64 0, .int .i64 0])] (by kernel_rfl) (by kernel_rfl) (by kernel_rfl) (by decide) rfl (by decide) rfl rfl (by kernel_rfl)
                  intro K hK
                  refine OblS.row rfl 25 (.tmp 6) rfl w.heap.size (by kernel_rfl) 25 _ _ EE.out.tab Tryz.underlying25 rfl (by kernel_rfl) ?_
                  refine OblS.row rfl 28 (.tmp 7) rfl (w.heap.size + 1) (by kernel_rfl) 28 _ _ EE.out.man Tryz.underlying28 rfl (by kernel_rfl) ?_
                  refine OblS.val (by kernel_rfl) (fun w' _ _ => (by kernel_rfl)) ?_
                  refine OblS.row rfl 43 (.tmp 9) rfl (w.heap.size + 1 + 1) (by kernel_rfl) 43 _ _ EE.out.sp Tryz.underlying43 rfl (by kernel_rfl) ?_
                  refine OblS.val (by kernel_rfl) (fun w' _ _ => (by kernel_rfl)) ?_
                  refine OblS.call 24 (by kernel_rfl) (fun w' hb _ => ⟨_, (by kernel_rfl), just1_c _ w'⟩) ?_
                  refine OblS.callR 23 (by rintro v x y ⟨g0, cap, e, h⟩ hb; exact ⟨g0, cap, e, h.keep hb⟩) (by kernel_rfl) (fun w' hb _ => ⟨#[.slice A n c, .agg #[.int .i64 l, .int .i64 g], .agg #[.int .i64 mn, .int .i64 mn]], (by kernel_rfl), (HMr.out _ w' (nextB EE.out.below hb)).mono fun e x ⟨g0, cap, h1, h2, h3⟩ => ⟨_, h1, ⟨g0, cap, rfl, h2⟩, h3⟩⟩) ?_
                  intro vm
                  refine OblS.call 16 (by kernel_rfl) (fun w' hb hH => ?_) ?_
                  · obtain ⟨g0, cap, rfl, hsl⟩ := hH _ (List.mem_cons_self ..) (by kernel_rfl)
                    exact ⟨#[.agg #[.slice pA pn pc, .slice sA sn sc], .agg #[.slice rA rn rc], .slice (some ⟨g0, 0, none⟩) (n + 1) cap], (by kernel_rfl), HSm.out w' (nextB EE.out.below hb) g0 cap hsl⟩
                  refine OblS.val (by kernel_rfl) (fun w' _ _ => (by kernel_rfl)) ?_
                  refine OblS.val (by kernel_rfl) (fun w' _ _ => (by kernel_rfl)) ?_
                  refine OblS.pure (by kernel_rfl) (fun w' => (by kernel_rfl)) ?_
                  refine OblS.makes ⟨rfl, fun a w => by kernel_rfl⟩ ?_
                  intro vb
                  apply OblS.nil
                  apply hK
                  intro w2 hb hH
                  obtain ⟨B, rfl, hB1, hB2⟩ := hH _ (List.mem_cons_self ..)
                  clear hH hK K
                  simp only [Act.put, List.setIfInBounds_toArray, List.set_cons_zero, List.set_cons_succ, List.drop_succ_cons, List.drop_zero]
                  have HBx := Lib.hid hB2
                  dsimp only [OnlyN, Exit.then]
                  go_wp2_with (first
                    | (refine wpList_store_all rfl 31 _ _ rfl B rfl _ rfl 31 _ HBx.out (by kernel_rfl) rfl (by simp [Value.oneCell']) ?_; have hb3 := rowB hb hB1 #[.int .i64 e1, .int .i64 e2]; have ZZ := Lib.hid (HBx.out.setRow #[.int .i64 e1, .int .i64 e2]); generalize w2.setRow B #[.int .i64 e1, .int .i64 e2] = wU at *; have cZZ := ZZ.out.cell; replace EE := Lib.hid (EE.out.keep hb3); replace XX := Lib.hid (XX.out.after hb3); replace cx := XX.out.cell; replace ct := EE.out.tab.cell; replace cm := EE.out.man.cell; replace cs := EE.out.sp.cell; replace co := EE.out.st.cell; clear hb hb3 hB1 hB2 HBx)
                    | (go_at_call 15; refine (knownLaw_c _).mono ?_; rintro e w15 ⟨rfl, hb⟩; have HB := Lib.hid (nextB EE.out.below hb); clear hb))
                  exact bodyPost_ret (results_tmp rfl _ _ _) rfl ⟨rfl, HB.out⟩
                · clear HSmm
                  obtain ⟨pA, sA, rA, pn, pc, sn, sc, rn, rc, ps, ss, rs⟩ := t
                  simp only [Tm.tab, Tm.man] at *
                  go_enter Tryz.func5, Tryz.ntmps5
                  go_wp2_with (first
                    | (go_at_call 13; refine (HSh.out _).mono ?_; rintro e w13 ⟨rfl, hb⟩; have EE := Lib.hid (E0.out.keep hb); have ct := EE.out.tab.cell; have cm := EE.out.man.cell; have cs := EE.out.sp.cell; have co := EE.out.st.cell; clear hb)
                    | (go_at_call 14; refine (HFi.out _ EE.out.below).mono ?_; rintro e w14 ⟨rfl, hb⟩; replace EE := Lib.hid (EE.out.keep hb); replace ct := EE.out.tab.cell; replace cm := EE.out.man.cell; replace cs := EE.out.sp.cell; replace co := EE.out.st.cell; clear hb)
                    | (go_at_call 21; refine (HFa.out _).mono ?_; rintro e w21 ⟨rfl, hb⟩; replace EE := Lib.hid (EE.out.keep hb); replace ct := EE.out.tab.cell; replace cm := EE.out.man.cell; replace cs := EE.out.sp.cell; replace co := EE.out.st.cell; clear hb)
                    | (go_at_call 20; refine (HMo.out _ EE.out.below).mono ?_; rintro e w20 ⟨rfl, hb⟩; replace EE := Lib.hid (EE.out.keep hb); replace ct := EE.out.tab.cell; replace cm := EE.out.man.cell; replace cs := EE.out.sp.cell; replace co := EE.out.st.cell; clear hb)
                    | (refine wpList_store_all rfl 31 _ _ rfl w20.heap.size rfl _ rfl 31 _ (Has.new w20 31 _) (by kernel_rfl) rfl (by simp [Value.oneCell']) ?_; have hb := box_below (W := w20) #[.int .i64 0, .int .i64 0] #[.int .i64 c1, .int .i64 c2] 31; have XX := Lib.hid (box_has (W := w20) #[.int .i64 0, .int .i64 0] #[.int .i64 c1, .int .i64 c2] 31); have cx := XX.out.cell; replace EE := Lib.hid (EE.out.keep hb); replace ct := EE.out.tab.cell; replace cm := EE.out.man.cell; replace cs := EE.out.sp.cell; replace co := EE.out.st.cell; clear hb; generalize (w20.alloc (.cells #[.int .i64 0, .int .i64 0] 31)).setRow w20.heap.size #[.int .i64 c1, .int .i64 c2] = wS at *)
                    | (go_at_call 15; refine (knownLaw_c _).mono ?_; rintro e w15 ⟨rfl, hb⟩; have HB := Lib.hid (nextB EE.out.below hb); clear hb))
                  apply wp_floats 12 10 [.v (.agg #[.slice pA pn pc, .slice sA sn sc]), .v (.agg #[.slice rA rn rc]), .v (.slice A n c), .v (.agg #[.int .i64 l, .int .i64 g]), .v (.int .i64 40), .v (.agg #[.int .i64 40, .int .i64 40]), .r (fun v w' => ∃ g0 cap, v = .slice (some ⟨g0, 0, none⟩) (n + 1) cap ∧ SlOf St.cs 4 w' (some ⟨g0, 0, none⟩) (n + 1) (dive ++ [stayS l g 40])), .v (.tuple #[.agg #[.int .i64 c1, .int .i64 c2], .int .i64 0]), .v (.tuple #[.agg #[.int .i64 c1, .int .i64 c2], .int .i64 0]), .v (.agg #[.int .i64 c1, .int .i64 c2]), .p (.int .i64 0), .r (NewR wS 31 #[.int .i64 0, .int .i64 0])] (by kernel_rfl) (by kernel_rfl) (by kernel_rfl) (by decide) rfl (by decide) rfl rfl (by kernel_rfl)
                  intro K hK
                  refine OblS.row rfl 25 (.tmp 6) rfl w.heap.size (by kernel_rfl) 25 _ _ EE.out.tab Tryz.underlying25 rfl (by kernel_rfl) ?_
                  refine OblS.row rfl 28 (.tmp 7) rfl (w.heap.size + 1) (by kernel_rfl) 28 _ _ EE.out.man Tryz.underlying28 rfl (by kernel_rfl) ?_
                  refine OblS.val (by kernel_rfl) (fun w' _ _ => (by kernel_rfl)) ?_
                  refine OblS.row rfl 43 (.tmp 9) rfl (w.heap.size + 1 + 1) (by kernel_rfl) 43 _ _ EE.out.sp Tryz.underlying43 rfl (by kernel_rfl) ?_
                  refine OblS.val (by kernel_rfl) (fun w' _ _ => (by kernel_rfl)) ?_
                  refine OblS.call 24 (by kernel_rfl) (fun w' hb _ => ⟨_, (by kernel_rfl), just1_c _ w'⟩) ?_
                  refine OblS.callR 23 (by rintro v x y ⟨g0, cap, e, h⟩ hb; exact ⟨g0, cap, e, h.keep hb⟩) (by kernel_rfl) (fun w' hb _ => ⟨#[.slice A n c, .agg #[.int .i64 l, .int .i64 g], .agg #[.int .i64 40, .int .i64 40]], (by kernel_rfl), (HMr.out _ w' (nextB EE.out.below hb)).mono fun e x ⟨g0, cap, h1, h2, h3⟩ => ⟨_, h1, ⟨g0, cap, rfl, h2⟩, h3⟩⟩) ?_
                  intro vm
                  refine OblS.call 16 (by kernel_rfl) (fun w' hb hH => ?_) ?_
                  · obtain ⟨g0, cap, rfl, hsl⟩ := hH _ (List.mem_cons_self ..) (by kernel_rfl)
                    exact ⟨#[.agg #[.slice pA pn pc, .slice sA sn sc], .agg #[.slice rA rn rc], .slice (some ⟨g0, 0, none⟩) (n + 1) cap], (by kernel_rfl), HS0.out w' (nextB EE.out.below hb) g0 cap hsl⟩
                  refine OblS.val (by kernel_rfl) (fun w' _ _ => (by kernel_rfl)) ?_
                  refine OblS.val (by kernel_rfl) (fun w' _ _ => (by kernel_rfl)) ?_
                  refine OblS.pure (by kernel_rfl) (fun w' => (by kernel_rfl)) ?_
                  refine OblS.makes ⟨rfl, fun a w => by kernel_rfl⟩ ?_
                  intro vb
                  apply OblS.nil
                  apply hK
                  intro w2 hb hH
                  obtain ⟨B, rfl, hB1, hB2⟩ := hH _ (List.mem_cons_self ..)
                  clear hH hK K
                  simp only [Act.put, List.setIfInBounds_toArray, List.set_cons_zero, List.set_cons_succ, List.drop_succ_cons, List.drop_zero]
                  have HBx := Lib.hid hB2
                  dsimp only [OnlyN, Exit.then]
                  go_wp2_with (first
                    | (refine wpList_store_all rfl 31 _ _ rfl B rfl _ rfl 31 _ HBx.out (by kernel_rfl) rfl (by simp [Value.oneCell']) ?_; have hb3 := rowB hb hB1 #[.int .i64 c1, .int .i64 c2]; have YY := Lib.hid (HBx.out.setRow #[.int .i64 c1, .int .i64 c2]); generalize w2.setRow B #[.int .i64 c1, .int .i64 c2] = wT at *; have cYY := YY.out.cell; replace EE := Lib.hid (EE.out.keep hb3); replace XX := Lib.hid (XX.out.after hb3); replace cx := XX.out.cell; replace ct := EE.out.tab.cell; replace cm := EE.out.man.cell; replace cs := EE.out.sp.cell; replace co := EE.out.st.cell; clear hb hb3 hB1 hB2 HBx)
                    | (go_at_call 15; refine (knownLaw_c _).mono ?_; rintro e w15 ⟨rfl, hb⟩; have HB := Lib.hid (nextB EE.out.below hb); clear hb))
                  exact bodyPost_ret (results_tmp rfl _ _ _) rfl ⟨rfl, HB.out⟩
              · clear HSmm
                obtain ⟨pA, sA, rA, pn, pc, sn, sc, rn, rc, ps, ss, rs⟩ := t
                simp only [Tm.tab, Tm.man] at *
                go_enter Tryz.func5, Tryz.ntmps5
                go_wp2_with (first
                  | (go_at_call 13; refine (HSh.out _).mono ?_; rintro e w13 ⟨rfl, hb⟩; have EE := Lib.hid (E0.out.keep hb); have ct := EE.out.tab.cell; have cm := EE.out.man.cell; have cs := EE.out.sp.cell; have co := EE.out.st.cell; clear hb)
                  | (go_at_call 14; refine (HFi.out _ EE.out.below).mono ?_; rintro e w14 ⟨rfl, hb⟩; replace EE := Lib.hid (EE.out.keep hb); replace ct := EE.out.tab.cell; replace cm := EE.out.man.cell; replace cs := EE.out.sp.cell; replace co := EE.out.st.cell; clear hb)
                  | (go_at_call 21; refine (HFa.out _).mono ?_; rintro e w21 ⟨rfl, hb⟩; replace EE := Lib.hid (EE.out.keep hb); replace ct := EE.out.tab.cell; replace cm := EE.out.man.cell; replace cs := EE.out.sp.cell; replace co := EE.out.st.cell; clear hb)
                  | (go_at_call 20; refine (HMo.out _ EE.out.below).mono ?_; rintro e w20 ⟨rfl, hb⟩; replace EE := Lib.hid (EE.out.keep hb); replace ct := EE.out.tab.cell; replace cm := EE.out.man.cell; replace cs := EE.out.sp.cell; replace co := EE.out.st.cell; clear hb)
                  | (refine wpList_store_all rfl 31 _ _ rfl w20.heap.size rfl _ rfl 31 _ (Has.new w20 31 _) (by kernel_rfl) rfl (by simp [Value.oneCell']) ?_; have hb := box_below (W := w20) #[.int .i64 0, .int .i64 0] #[.int .i64 c1, .int .i64 c2] 31; have XX := Lib.hid (box_has (W := w20) #[.int .i64 0, .int .i64 0] #[.int .i64 c1, .int .i64 c2] 31); have cx := XX.out.cell; replace EE := Lib.hid (EE.out.keep hb); replace ct := EE.out.tab.cell; replace cm := EE.out.man.cell; replace cs := EE.out.sp.cell; replace co := EE.out.st.cell; clear hb; generalize (w20.alloc (.cells #[.int .i64 0, .int .i64 0] 31)).setRow w20.heap.size #[.int .i64 c1, .int .i64 c2] = wS at *)
                  | (go_at_call 15; refine (knownLaw_c _).mono ?_; rintro e w15 ⟨rfl, hb⟩; have HB := Lib.hid (nextB EE.out.below hb); clear hb))
                apply wp_floats 12 10 [.v (.agg #[.slice pA pn pc, .slice sA sn sc]), .v (.agg #[.slice rA rn rc]), .v (.slice A n c), .v (.agg #[.int .i64 l, .int .i64 g]), .v (.int .i64 40), .v (.agg #[.int .i64 40, .int .i64 40]), .r (fun v w' => ∃ g0 cap, v = .slice (some ⟨g0, 0, none⟩) (n + 1) cap ∧ SlOf St.cs 4 w' (some ⟨g0, 0, none⟩) (n + 1) (dive ++ [stayS l g 40])), .v (.tuple #[.agg #[.int .i64 c1, .int .i64 c2], .int .i64 0]), .v (.tuple #[.agg #[.int .i64 c1, .int .i64 c2], .int .i64 0]), .v (.agg #[.int .i64 c1, .int .i64 c2]), .p (.int .i64 0), .r (NewR wS 31 #[.int .i64 0, .int .i64 0])] (by kernel_rfl) (by kernel_rfl) (by kernel_rfl) (by decide) rfl (by decide) rfl rfl (by kernel_rfl)
                intro K hK
                refine OblS.row rfl 25 (.tmp 6) rfl w.heap.size (by kernel_rfl) 25 _ _ EE.out.tab Tryz.underlying25 rfl (by kernel_rfl) ?_
                refine OblS.row rfl 28 (.tmp 7) rfl (w.heap.size + 1) (by kernel_rfl) 28 _ _ EE.out.man Tryz.underlying28 rfl (by kernel_rfl) ?_
                refine OblS.val (by kernel_rfl) (fun w' _ _ => (by kernel_rfl)) ?_
                refine OblS.row rfl 43 (.tmp 9) rfl (w.heap.size + 1 + 1) (by kernel_rfl) 43 _ _ EE.out.sp Tryz.underlying43 rfl (by kernel_rfl) ?_
                refine OblS.val (by kernel_rfl) (fun w' _ _ => (by kernel_rfl)) ?_
                refine OblS.call 24 (by kernel_rfl) (fun w' hb _ => ⟨_, (by kernel_rfl), just1_c _ w'⟩) ?_
                refine OblS.callR 23 (by rintro v x y ⟨g0, cap, e, h⟩ hb; exact ⟨g0, cap, e, h.keep hb⟩) (by kernel_rfl) (fun w' hb _ => ⟨#[.slice A n c, .agg #[.int .i64 l, .int .i64 g], .agg #[.int .i64 40, .int .i64 40]], (by kernel_rfl), (HMr.out _ w' (nextB EE.out.below hb)).mono fun e x ⟨g0, cap, h1, h2, h3⟩ => ⟨_, h1, ⟨g0, cap, rfl, h2⟩, h3⟩⟩) ?_
                intro vm
                refine OblS.call 16 (by kernel_rfl) (fun w' hb hH => ?_) ?_
                · obtain ⟨g0, cap, rfl, hsl⟩ := hH _ (List.mem_cons_self ..) (by kernel_rfl)
                  exact ⟨#[.agg #[.slice pA pn pc, .slice sA sn sc], .agg #[.slice rA rn rc], .slice (some ⟨g0, 0, none⟩) (n + 1) cap], (by kernel_rfl), HS0.out w' (nextB EE.out.below hb) g0 cap hsl⟩
                refine OblS.val (by kernel_rfl) (fun w' _ _ => (by kernel_rfl)) ?_
                refine OblS.val (by kernel_rfl) (fun w' _ _ => (by kernel_rfl)) ?_
                refine OblS.pure (by kernel_rfl) (fun w' => (by kernel_rfl)) ?_
                refine OblS.makes ⟨rfl, fun a w => by kernel_rfl⟩ ?_
                intro vb
                apply OblS.nil
                apply hK
                intro w2 hb hH
                obtain ⟨B, rfl, hB1, hB2⟩ := hH _ (List.mem_cons_self ..)
                clear hH hK K
                simp only [Act.put, List.setIfInBounds_toArray, List.set_cons_zero, List.set_cons_succ, List.drop_succ_cons, List.drop_zero]
                have HBx := Lib.hid hB2
                dsimp only [OnlyN, Exit.then]
                go_wp2_with (first
                  | (refine wpList_store_all rfl 31 _ _ rfl B rfl _ rfl 31 _ HBx.out (by kernel_rfl) rfl (by simp [Value.oneCell']) ?_; have hb3 := rowB hb hB1 #[.int .i64 c1, .int .i64 c2]; have YY := Lib.hid (HBx.out.setRow #[.int .i64 c1, .int .i64 c2]); generalize w2.setRow B #[.int .i64 c1, .int .i64 c2] = wT at *; have cYY := YY.out.cell; replace EE := Lib.hid (EE.out.keep hb3); replace XX := Lib.hid (XX.out.after hb3); replace cx := XX.out.cell; replace ct := EE.out.tab.cell; replace cm := EE.out.man.cell; replace cs := EE.out.sp.cell; replace co := EE.out.st.cell; clear hb hb3 hB1 hB2 HBx)
                  | (go_at_call 15; refine (knownLaw_c _).mono ?_; rintro e w15 ⟨rfl, hb⟩; have HB := Lib.hid (nextB EE.out.below hb); clear hb))
                exact bodyPost_ret (results_tmp rfl _ _ _) rfl ⟨rfl, HB.out⟩
            · obtain ⟨e5, e6⟩ := e4 (by omega)
              have HSu := Lib.hid (HSv.out (k + 1) e5)
              replace HSp := Lib.hid (HSp.out (k + 1))
              have HS2' := fun h => Lib.hid (HSw.out (k + 1) (e6 a b (hlb h).1 (hlb h).2.1 (hlb h).2.2))
              clear e1 e2 e3 e4 e5 e6 HSt HSv HSw hlb hL0 b1 b2
              by_cases hm0 : 0 ≤ mn
              · by_cases hm1 : mn ≤ k
                · obtain ⟨e1, e2, HSm⟩ := HSmm hm0 hm1
                  clear HSmm
                  cases lq
                  · clear HS2' HSp
                    obtain ⟨pA, sA, rA, pn, pc, sn, sc, rn, rc, ps, ss, rs⟩ := t
                    simp only [Tm.tab, Tm.man] at *
                    go_enter Tryz.func5, Tryz.ntmps5
                    go_wp2_with (first
                      | (go_at_call 13; refine (HSh.out _).mono ?_; rintro e w13 ⟨rfl, hb⟩; have EE := Lib.hid (E0.out.keep hb); have ct := EE.out.tab.cell; have cm := EE.out.man.cell; have cs := EE.out.sp.cell; have co := EE.out.st.cell; clear hb)
                      | (go_at_call 14; refine (HFi.out _ EE.out.below).mono ?_; rintro e w14 ⟨rfl, hb⟩; replace EE := Lib.hid (EE.out.keep hb); replace ct := EE.out.tab.cell; replace cm := EE.out.man.cell; replace cs := EE.out.sp.cell; replace co := EE.out.st.cell; clear hb)
                      | (go_at_call 21; refine (HFa.out _).mono ?_; rintro e w21 ⟨rfl, hb⟩; replace EE := Lib.hid (EE.out.keep hb); replace ct := EE.out.tab.cell; replace cm := EE.out.man.cell; replace cs := EE.out.sp.cell; replace co := EE.out.st.cell; clear hb)
                      | (go_at_call 20; refine (HMo.out _ EE.out.below).mono ?_; rintro e w20 ⟨rfl, hb⟩; replace EE := Lib.hid (EE.out.keep hb); replace ct := EE.out.tab.cell; replace cm := EE.out.man.cell; replace cs := EE.out.sp.cell; replace co := EE.out.st.cell; clear hb)
                      | (refine wpList_store_all rfl 31 _ _ rfl w20.heap.size rfl _ rfl 31 _ (Has.new w20 31 _) (by kernel_rfl) rfl (by simp [Value.oneCell']) ?_; have hb := box_below (W := w20) #[.int .i64 0, .int .i64 0] #[.int .i64 c1, .int .i64 c2] 31; have XX := Lib.hid (box_has (W := w20) #[.int .i64 0, .int .i64 0] #[.int .i64 c1, .int .i64 c2] 31); have cx := XX.out.cell; replace EE := Lib.hid (EE.out.keep hb); replace ct := EE.out.tab.cell; replace cm := EE.out.man.cell; replace cs := EE.out.sp.cell; replace co := EE.out.st.cell; clear hb; generalize (w20.alloc (.cells #[.int .i64 0, .int .i64 0] 31)).setRow w20.heap.size #[.int .i64 c1, .int .i64 c2] = wS at *)
                      | (go_at_call 15; refine (knownLaw_c _).mono ?_; rintro e w15 ⟨rfl, hb⟩; have HB := Lib.hid (nextB EE.out.below hb); clear hb))
                    apply wp_floats 12 10 [.v (.agg #[.slice pA pn pc, .slice sA sn sc]), .v (.agg #[.slice rA rn rc]), .v (.slice A n c), .v (.agg #[.int .i64 l, .int .i64 g]), .v (.int .i64 k), .v (.agg #[.int .i64 k, .int .i64 k]), .r (fun v w' => ∃ g0 cap, v = .slice (some ⟨g0, 0, none⟩) (n + 1) cap ∧ SlOf St.cs 4 w' (some ⟨g0, 0, none⟩) (n + 1) (dive ++ [stayS l g k])), .v (.tuple #[.agg #[.int .i64 c1, .int .i64 c2], .int .i64 0]), .v (.tuple #[.agg #[.int .i64 c1, .int .i64 c2], .int .i64 0]), .v (.agg #[.int .i64 c1, .int .i64 c2]), .p (.int .i64 0), .r (NewR wS 31 #[.int .i64 0, .int .i64 0])] (by kernel_rfl) (by kernel_rfl) (by kernel_rfl) (by decide) rfl (by decide) rfl rfl (by kernel_rfl)
                    intro K hK
                    refine OblS.row rfl 25 (.tmp 6) rfl w.heap.size (by kernel_rfl) 25 _ _ EE.out.tab Tryz.underlying25 rfl (by kernel_rfl) ?_
                    refine OblS.row rfl 28 (.tmp 7) rfl (w.heap.size + 1) (by kernel_rfl) 28 _ _ EE.out.man Tryz.underlying28 rfl (by kernel_rfl) ?_
                    refine OblS.val (by kernel_rfl) (fun w' _ _ => (by kernel_rfl)) ?_
                    refine OblS.row rfl 43 (.tmp 9) rfl (w.heap.size + 1 + 1) (by kernel_rfl) 43 _ _ EE.out.sp Tryz.underlying43 rfl (by kernel_rfl) ?_
                    refine OblS.val (by kernel_rfl) (fun w' _ _ => (by kernel_rfl)) ?_
                    refine OblS.call 24 (by kernel_rfl) (fun w' hb _ => ⟨_, (by kernel_rfl), just1_c _ w'⟩) ?_
                    refine OblS.callR 23 (by rintro v x y ⟨g0, cap, e, h⟩ hb; exact ⟨g0, cap, e, h.keep hb⟩) (by kernel_rfl) (fun w' hb _ => ⟨#[.slice A n c, .agg #[.int .i64 l, .int .i64 g], .agg #[.int .i64 k, .int .i64 k]], (by kernel_rfl), (HMr.out _ w' (nextB EE.out.below hb)).mono fun e x ⟨g0, cap, h1, h2, h3⟩ => ⟨_, h1, ⟨g0, cap, rfl, h2⟩, h3⟩⟩) ?_
                    intro vm
                    refine OblS.call 16 (by kernel_rfl) (fun w' hb hH => ?_) ?_
                    · obtain ⟨g0, cap, rfl, hsl⟩ := hH _ (List.mem_cons_self ..) (by kernel_rfl)
                      exact ⟨#[.agg #[.slice pA pn pc, .slice sA sn sc], .agg #[.slice rA rn rc], .slice (some ⟨g0, 0, none⟩) (n + 1) cap], (by kernel_rfl), HS0.out w' (nextB EE.out.below hb) g0 cap hsl⟩
                    refine OblS.val (by kernel_rfl) (fun w' _ _ => (by kernel_rfl)) ?_
                    refine OblS.val (by kernel_rfl) (fun w' _ _ => (by kernel_rfl)) ?_
                    refine OblS.pure (by kernel_rfl) (fun w' => (by kernel_rfl)) ?_
                    refine OblS.makes ⟨rfl, fun a w => by kernel_rfl⟩ ?_
                    intro vb
                    apply OblS.nil
                    apply hK
                    intro w2 hb hH
                    obtain ⟨B, rfl, hB1, hB2⟩ := hH _ (List.mem_cons_self ..)
                    clear hH hK K
                    simp only [Act.put, List.setIfInBounds_toArray, List.set_cons_zero, List.set_cons_succ, List.drop_succ_cons, List.drop_zero]
                    have HBx := Lib.hid hB2
                    dsimp only [OnlyN, Exit.then]
                    go_wp2_with (first
                      | (refine wpList_store_all rfl 31 _ _ rfl B rfl _ rfl 31 _ HBx.out (by kernel_rfl) rfl (by simp [Value.oneCell']) ?_; have hb3 := rowB hb hB1 #[.int .i64 c1, .int .i64 c2]; have YY := Lib.hid (HBx.out.setRow #[.int .i64 c1, .int .i64 c2]); generalize w2.setRow B #[.int .i64 c1, .int .i64 c2] = wT at *; have cYY := YY.out.cell; replace EE := Lib.hid (EE.out.keep hb3); replace XX := Lib.hid (XX.out.after hb3); replace cx := XX.out.cell; replace ct := EE.out.tab.cell; replace cm := EE.out.man.cell; replace cs := EE.out.sp.cell; replace co := EE.out.st.cell; clear hb hb3 hB1 hB2 HBx)
                      | (go_at_call 15; refine (knownLaw_c _).mono ?_; rintro e w15 ⟨rfl, hb⟩; have HB := Lib.hid (nextB EE.out.below hb); clear hb))
                    apply wp_floats 12 10 [.v (.agg #[.slice pA pn pc, .slice sA sn sc]), .v (.agg #[.slice rA rn rc]), .v (.slice A n c), .v (.agg #[.int .i64 l, .int .i64 g]), .v (.int .i64 mn), .v (.agg #[.int .i64 mn, .int .i64 mn]), .r (fun v w' => ∃ g0 cap, v = .slice (some ⟨g0, 0, none⟩) (n + 1) cap ∧ SlOf St.cs 4 w' (some ⟨g0, 0, none⟩) (n + 1) (dive ++ [stayS l g mn])), .v (.tuple #[.agg #[.int .i64 e1, .int .i64 e2], .int .i64 0]), .v (.tuple #[.agg #[.int .i64 e1, .int .i64 e2], .int .i64 0]), .v (.agg #[.int .i64 e1, .int .i64 e2]), .p (.int .i64 0), .r (NewR wT 31 #[.int .i64 0, .int .i64 0])] (by kernel_rfl) (by kernel_rfl) (by kernel_rfl) (by decide) rfl (by decide) rfl rfl (by kernel_rfl)
                    intro K hK
                    refine OblS.row rfl 25 (.tmp 6) rfl w.heap.size (by kernel_rfl) 25 _ _ EE.out.tab Tryz.underlying25 rfl (by kernel_rfl) ?_
                    refine OblS.row rfl 28 (.tmp 7) rfl (w.heap.size + 1) (by kernel_rfl) 28 _ _ EE.out.man Tryz.underlying28 rfl (by kernel_rfl) ?_
                    refine OblS.val (by kernel_rfl) (fun w' _ _ => (by kernel_rfl)) ?_
                    refine OblS.row rfl 43 (.tmp 9) rfl (w.heap.size + 1 + 1) (by kernel_rfl) 43 _ _ EE.out.sp Tryz.underlying43 rfl (by kernel_rfl) ?_
                    refine OblS.val (by kernel_rfl) (fun w' _ _ => (by kernel_rfl)) ?_
                    refine OblS.call 24 (by kernel_rfl) (fun w' hb _ => ⟨_, (by kernel_rfl), just1_c _ w'⟩) ?_
                    refine OblS.callR 23 (by rintro v x y ⟨g0, cap, e, h⟩ hb; exact ⟨g0, cap, e, h.keep hb⟩) (by kernel_rfl) (fun w' hb _ => ⟨#[.slice A n c, .agg #[.int .i64 l, .int .i64 g], .agg #[.int .i64 mn, .int .i64 mn]], (by kernel_rfl), (HMr.out _ w' (nextB EE.out.below hb)).mono fun e x ⟨g0, cap, h1, h2, h3⟩ => ⟨_, h1, ⟨g0, cap, rfl, h2⟩, h3⟩⟩) ?_
                    intro vm
                    refine OblS.call 16 (by kernel_rfl) (fun w' hb hH => ?_) ?_
                    · obtain ⟨g0, cap, rfl, hsl⟩ := hH _ (List.mem_cons_self ..) (by kernel_rfl)
                      exact ⟨#[.agg #[.slice pA pn pc, .slice sA sn sc], .agg #[.slice rA rn rc], .slice (some ⟨g0, 0, none⟩) (n + 1) cap], (by kernel_rfl), HSm.out w' (nextB EE.out.below hb) g0 cap hsl⟩
                    refine OblS.val (by kernel_rfl) (fun w' _ _ => (by kernel_rfl)) ?_
                    refine OblS.val (by kernel_rfl) (fun w' _ _ => (by kernel_rfl)) ?_
                    refine OblS.pure (by kernel_rfl) (fun w' => (by kernel_rfl)) ?_
                    refine OblS.makes ⟨rfl, fun a w => by kernel_rfl⟩ ?_
                    intro vb
                    apply OblS.nil
                    apply hK
                    intro w2 hb hH
                    obtain ⟨B, rfl, hB1, hB2⟩ := hH _ (List.mem_cons_self ..)
                    clear hH hK K
                    simp only [Act.put, List.setIfInBounds_toArray, List.set_cons_zero, List.set_cons_succ, List.drop_succ_cons, List.drop_zero]
                    have HBx := Lib.hid hB2
                    dsimp only [OnlyN, Exit.then]
                    go_wp2_with (first
                      | (refine wpList_store_all rfl 31 _ _ rfl B rfl _ rfl 31 _ HBx.out (by kernel_rfl) rfl (by simp [Value.oneCell']) ?_; have hb3 := rowB hb hB1 #[.int .i64 e1, .int .i64 e2]; have ZZ := Lib.hid (HBx.out.setRow #[.int .i64 e1, .int .i64 e2]); generalize w2.setRow B #[.int .i64 e1, .int .i64 e2] = wU at *; have cZZ := ZZ.out.cell; replace EE := Lib.hid (EE.out.keep hb3); replace XX := Lib.hid (XX.out.after hb3); replace cx := XX.out.cell; replace ct := EE.out.tab.cell; replace cm := EE.out.man.cell; replace cs := EE.out.sp.cell; replace co := EE.out.st.cell; clear hb hb3 hB1 hB2 HBx)
                      | (go_at_call 15; refine (knownLaw_c _).mono ?_; rintro e w15 ⟨rfl, hb⟩; have HB := Lib.hid (nextB EE.out.below hb); clear hb))
                    apply wp_loose 7 (.v (.slice A n c) :: .v (.agg #[.int .i64 l, .int .i64 g]) :: .v (.int .i64 k) :: .v (.int .i64 (k + 1)) :: .v (.agg #[.int .i64 (k + 1), .int .i64 (k + 1)]) :: .r (fun v w' => ∃ g0 cap, v = .slice (some ⟨g0, 0, none⟩) (n + 1) cap ∧ SlOf St.cs 4 w' (some ⟨g0, 0, none⟩) (n + 1) (dive ++ [stayS l g (k + 1)])) :: .r (fun v w' => ∃ g0 cap, v = .slice (some ⟨g0, 0, none⟩) (n + 1) cap ∧ SlOf St.cs 4 w' (some ⟨g0, 0, none⟩) (n + 1) (dive ++ [stayS l g (k + 1)])) :: []) (by kernel_rfl) (by kernel_rfl) (by kernel_rfl) (by decide) rfl
                    intro K hK
                    refine OblS.val (by kernel_rfl) (fun w' _ _ => (by kernel_rfl)) ?_
                    refine OblS.row rfl 43 (.tmp 9) rfl (w.heap.size + 1 + 1) (by kernel_rfl) 43 _ _ EE.out.sp Tryz.underlying43 rfl (by kernel_rfl) ?_
                    refine OblS.val (by kernel_rfl) (fun w' _ _ => (by kernel_rfl)) ?_
                    refine OblS.val (by kernel_rfl) (fun w' _ _ => (by go_simp; try first | done | rfl)) ?_
                    refine OblS.call 24 (by kernel_rfl) (fun w' hb _ => ⟨_, (by kernel_rfl), just1_c _ w'⟩) ?_
                    refine OblS.callR 23 (by rintro v x y ⟨g0, cap, e, h⟩ hb; exact ⟨g0, cap, e, h.keep hb⟩) (by kernel_rfl) (fun w' hb _ => ⟨#[.slice A n c, .agg #[.int .i64 l, .int .i64 g], .agg #[.int .i64 (k + 1), .int .i64 (k + 1)]], (by kernel_rfl), (HMr.out _ w' (nextB EE.out.below hb)).mono fun e x ⟨g0, cap, h1, h2, h3⟩ => ⟨_, h1, ⟨g0, cap, rfl, h2⟩, h3⟩⟩) ?_
                    intro vm
                    refine OblS.run (by rintro v x y ⟨g0, cap, e, h⟩ hb; exact ⟨g0, cap, e, h.keep hb⟩) (by kernel_rfl) (fun w' hb hH => ?_) ?_
                    · obtain ⟨g0, cap, e, hsl⟩ := hH _ (List.mem_cons_self ..) (by kernel_rfl)
                      exact ⟨vm, w', (by kernel_rfl), ⟨g0, cap, e, hsl⟩, Below.refl _ _⟩
                    intro vn
                    apply OblS.nil
                    apply hK
                    intro w5 hb hH
                    obtain ⟨g0, cap, rfl, hsl⟩ := hH _ (List.mem_cons_self ..)
                    have HLg := Lib.hid hsl
                    clear hH hK K hsl
                    simp only [Act.put, List.setIfInBounds_toArray, List.set_cons_zero, List.set_cons_succ, List.drop_succ_cons, List.drop_zero]
                    replace EE := Lib.hid (EE.out.keep hb); replace XX := Lib.hid (XX.out.after hb); replace cx := XX.out.cell; replace ct := EE.out.tab.cell; replace cm := EE.out.man.cell; replace cs := EE.out.sp.cell; replace co := EE.out.st.cell; clear hb
                    go_wp2_with (first
                      | (go_at_call 17; refine (HSu.out _ EE.out.below _ _ HLg.out).mono ?_; rintro e w17 ⟨rfl, hb⟩; replace EE := Lib.hid (EE.out.keep hb); replace XX := Lib.hid (XX.out.after hb); replace cx := XX.out.cell; replace HLg := Lib.hid (HLg.out.keep hb); replace ct := EE.out.tab.cell; replace cm := EE.out.man.cell; replace cs := EE.out.sp.cell; replace co := EE.out.st.cell; clear hb)
                      | (go_at_call 18; refine (HLs.out _ EE.out.below).mono ?_; rintro e w18 ⟨rfl, hb⟩; replace EE := Lib.hid (EE.out.keep hb); replace XX := Lib.hid (XX.out.after hb); replace cx := XX.out.cell; replace HLg := Lib.hid (HLg.out.keep hb); replace ct := EE.out.tab.cell; replace cm := EE.out.man.cell; replace cs := EE.out.sp.cell; replace co := EE.out.st.cell; clear hb)
                      | (go_at_call 15; refine (knownLaw_c _).mono ?_; rintro e w15 ⟨rfl, hb⟩; have HB := Lib.hid (nextB EE.out.below hb); clear hb))
                    exact bodyPost_ret (results_tmp rfl _ _ _) rfl ⟨rfl, HB.out⟩
                  · have HS2 := HS2' rfl
                    clear HS2'
                    obtain ⟨pA, sA, rA, pn, pc, sn, sc, rn, rc, ps, ss, rs⟩ := t
                    simp only [Tm.tab, Tm.man] at *
                    go_enter Tryz.func5, Tryz.ntmps5
                    go_wp2_with (first
                      | (go_at_call 13; refine (HSh.out _).mono ?_; rintro e w13 ⟨rfl, hb⟩; have EE := Lib.hid (E0.out.keep hb); have ct := EE.out.tab.cell; have cm := EE.out.man.cell; have cs := EE.out.sp.cell; have co := EE.out.st.cell; clear hb)
                      | (go_at_call 14; refine (HFi.out _ EE.out.below).mono ?_; rintro e w14 ⟨rfl, hb⟩; replace EE := Lib.hid (EE.out.keep hb); replace ct := EE.out.tab.cell; replace cm := EE.out.man.cell; replace cs := EE.out.sp.cell; replace co := EE.out.st.cell; clear hb)
                      | (go_at_call 21; refine (HFa.out _).mono ?_; rintro e w21 ⟨rfl, hb⟩; replace EE := Lib.hid (EE.out.keep hb); replace ct := EE.out.tab.cell; replace cm := EE.out.man.cell; replace cs := EE.out.sp.cell; replace co := EE.out.st.cell; clear hb)
                      | (go_at_call 20; refine (HMo.out _ EE.out.below).mono ?_; rintro e w20 ⟨rfl, hb⟩; replace EE := Lib.hid (EE.out.keep hb); replace ct := EE.out.tab.cell; replace cm := EE.out.man.cell; replace cs := EE.out.sp.cell; replace co := EE.out.st.cell; clear hb)
                      | (refine wpList_store_all rfl 31 _ _ rfl w20.heap.size rfl _ rfl 31 _ (Has.new w20 31 _) (by kernel_rfl) rfl (by simp [Value.oneCell']) ?_; have hb := box_below (W := w20) #[.int .i64 0, .int .i64 0] #[.int .i64 c1, .int .i64 c2] 31; have XX := Lib.hid (box_has (W := w20) #[.int .i64 0, .int .i64 0] #[.int .i64 c1, .int .i64 c2] 31); have cx := XX.out.cell; replace EE := Lib.hid (EE.out.keep hb); replace ct := EE.out.tab.cell; replace cm := EE.out.man.cell; replace cs := EE.out.sp.cell; replace co := EE.out.st.cell; clear hb; generalize (w20.alloc (.cells #[.int .i64 0, .int .i64 0] 31)).setRow w20.heap.size #[.int .i64 c1, .int .i64 c2] = wS at *)
                      | (go_at_call 15; refine (knownLaw_c _).mono ?_; rintro e w15 ⟨rfl, hb⟩; have HB := Lib.hid (nextB EE.out.below hb); clear hb))
                    apply wp_floats 12 10 [.v (.agg #[.slice pA pn pc, .slice sA sn sc]), .v (.agg #[.slice rA rn rc]), .v (.slice A n c), .v (.agg #[.int .i64 l, .int .i64 g]), .v (.int .i64 k), .v (.agg #[.int .i64 k, .int .i64 k]), .r (fun v w' => ∃ g0 cap, v = .slice (some ⟨g0, 0, none⟩) (n + 1) cap ∧ SlOf St.cs 4 w' (some ⟨g0, 0, none⟩) (n + 1) (dive ++ [stayS l g k])), .v (.tuple #[.agg #[.int .i64 c1, .int .i64 c2], .int .i64 0]), .v (.tuple #[.agg #[.int .i64 c1, .int .i64 c2], .int .i64 0]), .v (.agg #[.int .i64 c1, .int .i64 c2]), .p (.int .i64 0), .r (NewR wS 31 #[.int .i64 0, .int .i64 0])] (by kernel_rfl) (by kernel_rfl) (by kernel_rfl) (by decide) rfl (by decide) rfl rfl (by kernel_rfl)
                    intro K hK
                    refine OblS.row rfl 25 (.tmp 6) rfl w.heap.size (by kernel_rfl) 25 _ _ EE.out.tab Tryz.underlying25 rfl (by kernel_rfl) ?_
                    refine OblS.row rfl 28 (.tmp 7) rfl (w.heap.size + 1) (by kernel_rfl) 28 _ _ EE.out.man Tryz.underlying28 rfl (by kernel_rfl) ?_
                    refine OblS.val (by kernel_rfl) (fun w' _ _ => (by kernel_rfl)) ?_
                    refine OblS.row rfl 43 (.tmp 9) rfl (w.heap.size + 1 + 1) (by kernel_rfl) 43 _ _ EE.out.sp Tryz.underlying43 rfl (by kernel_rfl) ?_
                    refine OblS.val (by kernel_rfl) (fun w' _ _ => (by kernel_rfl)) ?_
                    refine OblS.call 24 (by kernel_rfl) (fun w' hb _ => ⟨_, (by kernel_rfl), just1_c _ w'⟩) ?_
                    refine OblS.callR 23 (by rintro v x y ⟨g0, cap, e, h⟩ hb; exact ⟨g0, cap, e, h.keep hb⟩) (by kernel_rfl) (fun w' hb _ => ⟨#[.slice A n c, .agg #[.int .i64 l, .int .i64 g], .agg #[.int .i64 k, .int .i64 k]], (by kernel_rfl), (HMr.out _ w' (nextB EE.out.below hb)).mono fun e x ⟨g0, cap, h1, h2, h3⟩ => ⟨_, h1, ⟨g0, cap, rfl, h2⟩, h3⟩⟩) ?_
                    intro vm
                    refine OblS.call 16 (by kernel_rfl) (fun w' hb hH => ?_) ?_
                    · obtain ⟨g0, cap, rfl, hsl⟩ := hH _ (List.mem_cons_self ..) (by kernel_rfl)
                      exact ⟨#[.agg #[.slice pA pn pc, .slice sA sn sc], .agg #[.slice rA rn rc], .slice (some ⟨g0, 0, none⟩) (n + 1) cap], (by kernel_rfl), HS0.out w' (nextB EE.out.below hb) g0 cap hsl⟩
                    refine OblS.val (by kernel_rfl) (fun w' _ _ => (by kernel_rfl)) ?_
                    refine OblS.val (by kernel_rfl) (fun w' _ _ => (by kernel_rfl)) ?_
                    refine OblS.pure (by kernel_rfl) (fun w' => (by kernel_rfl)) ?_
                    refine OblS.makes ⟨rfl, fun a w => by kernel_rfl⟩ ?_
                    intro vb
                    apply OblS.nil
                    apply hK
                    intro w2 hb hH
                    obtain ⟨B, rfl, hB1, hB2⟩ := hH _ (List.mem_cons_self ..)
                    clear hH hK K
                    simp only [Act.put, List.setIfInBounds_toArray, List.set_cons_zero, List.set_cons_succ, List.drop_succ_cons, List.drop_zero]
                    have HBx := Lib.hid hB2
                    dsimp only [OnlyN, Exit.then]
                    go_wp2_with (first
                      | (refine wpList_store_all rfl 31 _ _ rfl B rfl _ rfl 31 _ HBx.out (by kernel_rfl) rfl (by simp [Value.oneCell']) ?_; have hb3 := rowB hb hB1 #[.int .i64 c1, .int .i64 c2]; have YY := Lib.hid (HBx.out.setRow #[.int .i64 c1, .int .i64 c2]); generalize w2.setRow B #[.int .i64 c1, .int .i64 c2] = wT at *; have cYY := YY.out.cell; replace EE := Lib.hid (EE.out.keep hb3); replace XX := Lib.hid (XX.out.after hb3); replace cx := XX.out.cell; replace ct := EE.out.tab.cell; replace cm := EE.out.man.cell; replace cs := EE.out.sp.cell; replace co := EE.out.st.cell; clear hb hb3 hB1 hB2 HBx)
                      | (go_at_call 15; refine (knownLaw_c _).mono ?_; rintro e w15 ⟨rfl, hb⟩; have HB := Lib.hid (nextB EE.out.below hb); clear hb))
                    apply wp_floats 12 10 [.v (.agg #[.slice pA pn pc, .slice sA sn sc]), .v (.agg #[.slice rA rn rc]), .v (.slice A n c), .v (.agg #[.int .i64 l, .int .i64 g]), .v (.int .i64 mn), .v (.agg #[.int .i64 mn, .int .i64 mn]), .r (fun v w' => ∃ g0 cap, v = .slice (some ⟨g0, 0, none⟩) (n + 1) cap ∧ SlOf St.cs 4 w' (some ⟨g0, 0, none⟩) (n + 1) (dive ++ [stayS l g mn])), .v (.tuple #[.agg #[.int .i64 e1, .int .i64 e2], .int .i64 0]), .v (.tuple #[.agg #[.int .i64 e1, .int .i64 e2], .int .i64 0]), .v (.agg #[.int .i64 e1, .int .i64 e2]), .p (.int .i64 0), .r (NewR wT 31 #[.int .i64 0, .int .i64 0])] (by kernel_rfl) (by kernel_rfl) (by kernel_rfl) (by decide) rfl (by decide) rfl rfl (by kernel_rfl)
                    intro K hK
                    refine OblS.row rfl 25 (.tmp 6) rfl w.heap.size (by kernel_rfl) 25 _ _ EE.out.tab Tryz.underlying25 rfl (by kernel_rfl) ?_
                    refine OblS.row rfl 28 (.tmp 7) rfl (w.heap.size + 1) (by kernel_rfl) 28 _ _ EE.out.man Tryz.underlying28 rfl (by kernel_rfl) ?_
                    refine OblS.val (by kernel_rfl) (fun w' _ _ => (by kernel_rfl)) ?_
                    refine OblS.row rfl 43 (.tmp 9) rfl (w.heap.size + 1 + 1) (by kernel_rfl) 43 _ _ EE.out.sp Tryz.underlying43 rfl (by kernel_rfl) ?_
                    refine OblS.val (by kernel_rfl) (fun w' _ _ => (by kernel_rfl)) ?_
                    refine OblS.call 24 (by kernel_rfl) (fun w' hb _ => ⟨_, (by kernel_rfl), just1_c _ w'⟩) ?_
                    refine OblS.callR 23 (by rintro v x y ⟨g0, cap, e, h⟩ hb; exact ⟨g0, cap, e, h.keep hb⟩) (by kernel_rfl) (fun w' hb _ => ⟨#[.slice A n c, .agg #[.int .i64 l, .int .i64 g], .agg #[.int .i64 mn, .int .i64 mn]], (by kernel_rfl), (HMr.out _ w' (nextB EE.out.below hb)).mono fun e x ⟨g0, cap, h1, h2, h3⟩ => ⟨_, h1, ⟨g0, cap, rfl, h2⟩, h3⟩⟩) ?_
                    intro vm
                    refine OblS.call 16 (by kernel_rfl) (fun w' hb hH => ?_) ?_
                    · obtain ⟨g0, cap, rfl, hsl⟩ := hH _ (List.mem_cons_self ..) (by kernel_rfl)
                      exact ⟨#[.agg #[.slice pA pn pc, .slice sA sn sc], .agg #[.slice rA rn rc], .slice (some ⟨g0, 0, none⟩) (n + 1) cap], (by kernel_rfl), HSm.out w' (nextB EE.out.below hb) g0 cap hsl⟩
                    refine OblS.val (by kernel_rfl) (fun w' _ _ => (by kernel_rfl)) ?_
                    refine OblS.val (by kernel_rfl) (fun w' _ _ => (by kernel_rfl)) ?_
                    refine OblS.pure (by kernel_rfl) (fun w' => (by kernel_rfl)) ?_
                    refine OblS.makes ⟨rfl, fun a w => by kernel_rfl⟩ ?_
                    intro vb
                    apply OblS.nil
                    apply hK
                    intro w2 hb hH
                    obtain ⟨B, rfl, hB1, hB2⟩ := hH _ (List.mem_cons_self ..)
                    clear hH hK K
                    simp only [Act.put, List.setIfInBounds_toArray, List.set_cons_zero, List.set_cons_succ, List.drop_succ_cons, List.drop_zero]
                    have HBx := Lib.hid hB2
                    dsimp only [OnlyN, Exit.then]
                    go_wp2_with (first
                      | (refine wpList_store_all rfl 31 _ _ rfl B rfl _ rfl 31 _ HBx.out (by kernel_rfl) rfl (by simp [Value.oneCell']) ?_; have hb3 := rowB hb hB1 #[.int .i64 e1, .int .i64 e2]; have ZZ := Lib.hid (HBx.out.setRow #[.int .i64 e1, .int .i64 e2]); generalize w2.setRow B #[.int .i64 e1, .int .i64 e2] = wU at *; have cZZ := ZZ.out.cell; replace EE := Lib.hid (EE.out.keep hb3); replace XX := Lib.hid (XX.out.after hb3); replace cx := XX.out.cell; replace ct := EE.out.tab.cell; replace cm := EE.out.man.cell; replace cs := EE.out.sp.cell; replace co := EE.out.st.cell; clear hb hb3 hB1 hB2 HBx)
                      | (go_at_call 15; refine (knownLaw_c _).mono ?_; rintro e w15 ⟨rfl, hb⟩; have HB := Lib.hid (nextB EE.out.below hb); clear hb))
                    apply wp_loose 7 (.v (.slice A n c) :: .v (.agg #[.int .i64 l, .int .i64 g]) :: .v (.int .i64 k) :: .v (.int .i64 (k + 1)) :: .v (.agg #[.int .i64 (k + 1), .int .i64 (k + 1)]) :: .r (fun v w' => ∃ g0 cap, v = .slice (some ⟨g0, 0, none⟩) (n + 1) cap ∧ SlOf St.cs 4 w' (some ⟨g0, 0, none⟩) (n + 1) (dive ++ [stayS l g (k + 1)])) :: .r (fun v w' => ∃ g0 cap, v = .slice (some ⟨g0, 0, none⟩) (n + 1) cap ∧ SlOf St.cs 4 w' (some ⟨g0, 0, none⟩) (n + 1) (dive ++ [stayS l g (k + 1)])) :: []) (by kernel_rfl) (by kernel_rfl) (by kernel_rfl) (by decide) rfl
                    intro K hK
                    refine OblS.val (by kernel_rfl) (fun w' _ _ => (by kernel_rfl)) ?_
                    refine OblS.row rfl 43 (.tmp 9) rfl (w.heap.size + 1 + 1) (by kernel_rfl) 43 _ _ EE.out.sp Tryz.underlying43 rfl (by kernel_rfl) ?_
                    refine OblS.val (by kernel_rfl) (fun w' _ _ => (by kernel_rfl)) ?_
                    refine OblS.val (by kernel_rfl) (fun w' _ _ => (by go_simp; try first | done | rfl)) ?_
                    refine OblS.call 24 (by kernel_rfl) (fun w' hb _ => ⟨_, (by kernel_rfl), just1_c _ w'⟩) ?_
                    refine OblS.callR 23 (by rintro v x y ⟨g0, cap, e, h⟩ hb; exact ⟨g0, cap, e, h.keep hb⟩) (by kernel_rfl) (fun w' hb _ => ⟨#[.slice A n c, .agg #[.int .i64 l, .int .i64 g], .agg #[.int .i64 (k + 1), .int .i64 (k + 1)]], (by kernel_rfl), (HMr.out _ w' (nextB EE.out.below hb)).mono fun e x ⟨g0, cap, h1, h2, h3⟩ => ⟨_, h1, ⟨g0, cap, rfl, h2⟩, h3⟩⟩) ?_
                    intro vm
                    refine OblS.run (by rintro v x y ⟨g0, cap, e, h⟩ hb; exact ⟨g0, cap, e, h.keep hb⟩) (by kernel_rfl) (fun w' hb hH => ?_) ?_
                    · obtain ⟨g0, cap, e, hsl⟩ := hH _ (List.mem_cons_self ..) (by kernel_rfl)
                      exact ⟨vm, w', (by kernel_rfl), ⟨g0, cap, e, hsl⟩, Below.refl _ _⟩
                    intro vn
                    apply OblS.nil
                    apply hK
                    intro w5 hb hH
                    obtain ⟨g0, cap, rfl, hsl⟩ := hH _ (List.mem_cons_self ..)
                    have HLg := Lib.hid hsl
                    clear hH hK K hsl
                    simp only [Act.put, List.setIfInBounds_toArray, List.set_cons_zero, List.set_cons_succ, List.drop_succ_cons, List.drop_zero]
                    replace EE := Lib.hid (EE.out.keep hb); replace XX := Lib.hid (XX.out.after hb); replace cx := XX.out.cell; replace ct := EE.out.tab.cell; replace cm := EE.out.man.cell; replace cs := EE.out.sp.cell; replace co := EE.out.st.cell; clear hb
                    go_wp2_with (first
                      | (go_at_call 17; refine (HSu.out _ EE.out.below _ _ HLg.out).mono ?_; rintro e w17 ⟨rfl, hb⟩; replace EE := Lib.hid (EE.out.keep hb); replace XX := Lib.hid (XX.out.after hb); replace cx := XX.out.cell; replace HLg := Lib.hid (HLg.out.keep hb); replace ct := EE.out.tab.cell; replace cm := EE.out.man.cell; replace cs := EE.out.sp.cell; replace co := EE.out.st.cell; clear hb)
                      | (go_at_call 18; refine (HLs.out _ EE.out.below).mono ?_; rintro e w18 ⟨rfl, hb⟩; replace EE := Lib.hid (EE.out.keep hb); replace XX := Lib.hid (XX.out.after hb); replace cx := XX.out.cell; replace HLg := Lib.hid (HLg.out.keep hb); replace ct := EE.out.tab.cell; replace cm := EE.out.man.cell; replace cs := EE.out.sp.cell; replace co := EE.out.st.cell; clear hb)
                      | (go_at_call 15; refine (knownLaw_c _).mono ?_; rintro e w15 ⟨rfl, hb⟩; have HB := Lib.hid (nextB EE.out.below hb); clear hb))
                    apply wp_loose 11 (.v (.agg #[.slice pA pn pc, .slice sA sn sc]) :: .v (.agg #[.slice rA rn rc]) :: .v (.slice (some ⟨g0, 0, none⟩) (n + 1) cap) :: .v (.agg #[.int .i64 a, .int .i64 b]) :: .r (fun v w' => ∃ g1 cap1, v = .slice (some ⟨g1, 0, none⟩) (n + 1 + 1) cap1 ∧ SlOf St.cs 4 w' (some ⟨g1, 0, none⟩) (n + 1 + 1) ((dive ++ [stayS l g (k + 1)]) ++ [stayS a a b])) :: .v (.tuple #[.bool false, .int .i64 0]) :: .v (.tuple #[.bool false, .int .i64 0]) :: .v (.bool false) :: .v (.int .i64 0) :: .v (.bool false) :: .v (.int .i64 0) :: []) (by kernel_rfl) (by kernel_rfl) (by kernel_rfl) (by decide) rfl
                    intro K hK
                    refine OblS.row rfl 25 (.tmp 6) rfl w.heap.size (by kernel_rfl) 25 _ _ EE.out.tab Tryz.underlying25 rfl (by kernel_rfl) ?_
                    refine OblS.row rfl 28 (.tmp 7) rfl (w.heap.size + 1) (by kernel_rfl) 28 _ _ EE.out.man Tryz.underlying28 rfl (by kernel_rfl) ?_
                    refine OblS.val (by kernel_rfl) (fun w' _ _ => (by kernel_rfl)) ?_
                    refine OblS.row rfl 31 (.tmp 11) rfl (w.heap.size + 1 + 1 + 1) (by kernel_rfl) 31 _ _ EE.out.st Tryz.underlying31 rfl (by kernel_rfl) ?_
                    refine OblS.callR 19 (by rintro v x y ⟨g0, cap, e, h⟩ hb; exact ⟨g0, cap, e, h.keep hb⟩) (by kernel_rfl) (fun w' hb _ => ⟨#[.slice (some ⟨g0, 0, none⟩) (n + 1) cap, .agg #[.int .i64 a, .int .i64 b]], (by kernel_rfl), (HSp.out w' g0 cap (HLg.out.keep hb)).mono fun e x ⟨g0, cap, h1, h2, h3⟩ => ⟨_, h1, ⟨g0, cap, rfl, h2⟩, h3⟩⟩) ?_
                    intro vs
                    refine OblS.call 17 (by kernel_rfl) (fun w' hb hH => ?_) ?_
                    · obtain ⟨g1, cap1, rfl, hsl⟩ := hH _ (List.mem_cons_self ..) (by kernel_rfl)
                      exact ⟨#[.agg #[.slice pA pn pc, .slice sA sn sc], .agg #[.slice rA rn rc], .slice (some ⟨g1, 0, none⟩) (n + 1 + 1) cap1], (by kernel_rfl), HS2.out w' (nextB EE.out.below hb) g1 cap1 hsl⟩
                    iterate 5 refine OblS.val (by kernel_rfl) (fun w' _ _ => (by kernel_rfl)) ?_
                    apply OblS.nil
                    apply hK
                    intro w6 hb hH
                    clear hH hK K
                    simp only [Act.put, List.setIfInBounds_toArray, List.set_cons_zero, List.set_cons_succ, List.drop_succ_cons, List.drop_zero]
                    replace EE := Lib.hid (EE.out.keep hb); replace ct := EE.out.tab.cell; replace cm := EE.out.man.cell; replace cs := EE.out.sp.cell; replace co := EE.out.st.cell; clear hb
                    go_wp2_with (first
                      | (go_at_call 15; refine (knownLaw_c _).mono ?_; rintro e w15 ⟨rfl, hb⟩; have HB := Lib.hid (nextB EE.out.below hb); clear hb))
                    exact bodyPost_ret (results_tmp rfl _ _ _) rfl ⟨rfl, HB.out⟩
                · clear HSmm
                  cases lq
                  · clear HS2' HSp
                    obtain ⟨pA, sA, rA, pn, pc, sn, sc, rn, rc, ps, ss, rs⟩ := t
                    simp only [Tm.tab, Tm.man] at *
                    go_enter Tryz.func5, Tryz.ntmps5
                    go_wp2_with (first
                      | (go_at_call 13; refine (HSh.out _).mono ?_; rintro e w13 ⟨rfl, hb⟩; have EE := Lib.hid (E0.out.keep hb); have ct := EE.out.tab.cell; have cm := EE.out.man.cell; have cs := EE.out.sp.cell; have co := EE.out.st.cell; clear hb)
                      | (go_at_call 14; refine (HFi.out _ EE.out.below).mono ?_; rintro e w14 ⟨rfl, hb⟩; replace EE := Lib.hid (EE.out.keep hb); replace ct := EE.out.tab.cell; replace cm := EE.out.man.cell; replace cs := EE.out.sp.cell; replace co := EE.out.st.cell; clear hb)
                      | (go_at_call 21; refine (HFa.out _).mono ?_; rintro e w21 ⟨rfl, hb⟩; replace EE := Lib.hid (EE.out.keep hb); replace ct := EE.out.tab.cell; replace cm := EE.out.man.cell; replace cs := EE.out.sp.cell; replace co := EE.out.st.cell; clear hb)
                      | (go_at_call 20; refine (HMo.out _ EE.out.below).mono ?_; rintro e w20 ⟨rfl, hb⟩; replace EE := Lib.hid (EE.out.keep hb); replace ct := EE.out.tab.cell; replace cm := EE.out.man.cell; replace cs := EE.out.sp.cell; replace co := EE.out.st.cell; clear hb)
                      | (refine wpList_store_all rfl 31 _ _ rfl w20.heap.size rfl _ rfl 31 _ (Has.new w20 31 _) (by kernel_rfl) rfl (by simp [Value.oneCell']) ?_; have hb := box_below (W := w20) #[.int .i64 0, .int .i64 0] #[.int .i64 c1, .int .i64 c2] 31; have XX := Lib.hid (box_has (W := w20) #[.int .i64 0, .int .i64 0] #[.int .i64 c1, .int .i64 c2] 31); have cx := XX.out.cell; replace EE := Lib.hid (EE.out.keep hb); replace ct := EE.out.tab.cell; replace cm := EE.out.man.cell; replace cs := EE.out.sp.cell; replace co := EE.out.st.cell; clear hb; generalize (w20.alloc (.cells #[.int .i64 0, .int .i64 0] 31)).setRow w20.heap.size #[.int .i64 c1, .int .i64 c2] = wS at *)
                      | (go_at_call 15; refine (knownLaw_c _).mono ?_; rintro e w15 ⟨rfl, hb⟩; have HB := Lib.hid (nextB EE.out.below hb); clear hb))
                    apply wp_floats 12 10 [.v (.agg #[.slice pA pn pc, .slice sA sn sc]), .v (.agg #[.slice rA rn rc]), .v (.slice A n c), .v (.agg #[.int .i64 l, .int .i64 g]), .v (.int .i64 k), .v (.agg #[.int .i64 k, .int .i64 k]), .r (fun v w' => ∃ g0 cap, v = .slice (some ⟨g0, 0, none⟩) (n + 1) cap ∧ SlOf St.cs 4 w' (some ⟨g0, 0, none⟩) (n + 1) (dive ++ [stayS l g k])), .v (.tuple #[.agg #[.int .i64 c1, .int .i64 c2], .int .i64 0]), .v (.tuple #[.agg #[.int .i64 c1, .int .i64 c2], .int .i64 0]), .v (.agg #[.int .i64 c1, .int .i64 c2]), .p (.int .i64 0), .r (NewR wS 31 #[.int .i64 0, .int .i64 0])] (by kernel_rfl) (by kernel_rfl) (by kernel_rfl) (by decide) rfl (by decide) rfl rfl (by kernel_rfl)
                    intro K hK
                    refine OblS.row rfl 25 (.tmp 6) rfl w.heap.size (by kernel_rfl) 25 _ _ EE.out.tab Tryz.underlying25 rfl (by kernel_rfl) ?_
                    refine OblS.row rfl 28 (.tmp 7) rfl (w.heap.size + 1) (by kernel_rfl) 28 _ _ EE.out.man Tryz.underlying28 rfl (by kernel_rfl) ?_
                    refine OblS.val (by kernel_rfl) (fun w' _ _ => (by kernel_rfl)) ?_
                    refine OblS.row rfl 43 (.tmp 9) rfl (w.heap.size + 1 + 1) (by kernel_rfl) 43 _ _ EE.out.sp Tryz.underlying43 rfl (by kernel_rfl) ?_
                    refine OblS.val (by kernel_rfl) (fun w' _ _ => (by kernel_rfl)) ?_
                    refine OblS.call 24 (by kernel_rfl) (fun w' hb _ => ⟨_, (by kernel_rfl), just1_c _ w'⟩) ?_
                    refine OblS.callR 23 (by rintro v x y ⟨g0, cap, e, h⟩ hb; exact ⟨g0, cap, e, h.keep hb⟩) (by kernel_rfl) (fun w' hb _ => ⟨#[.slice A n c, .agg #[.int .i64 l, .int .i64 g], .agg #[.int .i64 k, .int .i64 k]], (by kernel_rfl), (HMr.out _ w' (nextB EE.out.below hb)).mono fun e x ⟨g0, cap, h1, h2, h3⟩ => ⟨_, h1, ⟨g0, cap, rfl, h2⟩, h3⟩⟩) ?_
                    intro vm
                    refine OblS.call 16 (by kernel_rfl) (fun w' hb hH => ?_) ?_
                    · obtain ⟨g0, cap, rfl, hsl⟩ := hH _ (List.mem_cons_self ..) (by kernel_rfl)
                      exact ⟨#[.agg #[.slice pA pn pc, .slice sA sn sc], .agg #[.slice rA rn rc], .slice (some ⟨g0, 0, none⟩) (n + 1) cap], (by kernel_rfl), HS0.out w' (nextB EE.out.below hb) g0 cap hsl⟩
                    refine OblS.val (by kernel_rfl) (fun w' _ _ => (by kernel_rfl)) ?_
                    refine OblS.val (by kernel_rfl) (fun w' _ _ => (by kernel_rfl)) ?_
                    refine OblS.pure (by kernel_rfl) (fun w' => (by kernel_rfl)) ?_
                    refine OblS.makes ⟨rfl, fun a w => by kernel_rfl⟩ ?_
                    intro vb
                    apply OblS.nil
                    apply hK
                    intro w2 hb hH
                    obtain ⟨B, rfl, hB1, hB2⟩ := hH _ (List.mem_cons_self ..)
                    clear hH hK K
                    simp only [Act.put, List.setIfInBounds_toArray, List.set_cons_zero, List.set_cons_succ, List.drop_succ_cons, List.drop_zero]
                    have HBx := Lib.hid hB2
                    dsimp only [OnlyN, Exit.then]
                    go_wp2_with (first
                      | (refine wpList_store_all rfl 31 _ _ rfl B rfl _ rfl 31 _ HBx.out (by kernel_rfl) rfl (by simp [Value.oneCell']) ?_; have hb3 := rowB hb hB1 #[.int .i64 c1, .int .i64 c2]; have YY := Lib.hid (HBx.out.setRow #[.int .i64 c1, .int .i64 c2]); generalize w2.setRow B #[.int .i64 c1, .int .i64 c2] = wT at *; have cYY := YY.out.cell; replace EE := Lib.hid (EE.out.keep hb3); replace XX := Lib.hid (XX.out.after hb3); replace cx := XX.out.cell; replace ct := EE.out.tab.cell; replace cm := EE.out.man.cell; replace cs := EE.out.sp.cell; replace co := EE.out.st.cell; clear hb hb3 hB1 hB2 HBx)
                      | (go_at_call 15; refine (knownLaw_c _).mono ?_; rintro e w15 ⟨rfl, hb⟩; have HB := Lib.hid (nextB EE.out.below hb); clear hb))
                    apply wp_loose 7 (.v (.slice A n c) :: .v (.agg #[.int .i64 l, .int .i64 g]) :: .v (.int .i64 k) :: .v (.int .i64 (k + 1)) :: .v (.agg #[.int .i64 (k + 1), .int .i64 (k + 1)]) :: .r (fun v w' => ∃ g0 cap, v = .slice (some ⟨g0, 0, none⟩) (n + 1) cap ∧ SlOf St.cs 4 w' (some ⟨g0, 0, none⟩) (n + 1) (dive ++ [stayS l g (k + 1)])) :: .r (fun v w' => ∃ g0 cap, v = .slice (some ⟨g0, 0, none⟩) (n + 1) cap ∧ SlOf St.cs 4 w' (some ⟨g0, 0, none⟩) (n + 1) (dive ++ [stayS l g (k + 1)])) :: []) (by kernel_rfl) (by kernel_rfl) (by kernel_rfl) (by decide) rfl
                    intro K hK
                    refine OblS.val (by kernel_rfl) (fun w' _ _ => (by kernel_rfl)) ?_
                    refine OblS.row rfl 43 (.tmp 9) rfl (w.heap.size + 1 + 1) (by kernel_rfl) 43 _ _ EE.out.sp Tryz.underlying43 rfl (by kernel_rfl) ?_
                    refine OblS.val (by kernel_rfl) (fun w' _ _ => (by kernel_rfl)) ?_
                    refine OblS.val (by kernel_rfl) (fun w' _ _ => (by go_simp; try first | done | rfl)) ?_
                    refine OblS.call 24 (by kernel_rfl) (fun w' hb _ => ⟨_, (by kernel_rfl), just1_c _ w'⟩) ?_
                    refine OblS.callR 23 (by rintro v x y ⟨g0, cap, e, h⟩ hb; exact ⟨g0, cap, e, h.keep hb⟩) (by kernel_rfl) (fun w' hb _ => ⟨#[.slice A n c, .agg #[.int .i64 l, .int .i64 g], .agg #[.int .i64 (k + 1), .int .i64 (k + 1)]], (by kernel_rfl), (HMr.out _ w' (nextB EE.out.below hb)).mono fun e x ⟨g0, cap, h1, h2, h3⟩ => ⟨_, h1, ⟨g0, cap, rfl, h2⟩, h3⟩⟩) ?_
                    intro vm
                    refine OblS.run (by rintro v x y ⟨g0, cap, e, h⟩ hb; exact ⟨g0, cap, e, h.keep hb⟩) (by kernel_rfl) (fun w' hb hH => ?_) ?_
                    · obtain ⟨g0, cap, e, hsl⟩ := hH _ (List.mem_cons_self ..) (by kernel_rfl)
                      exact ⟨vm, w', (by kernel_rfl), ⟨g0, cap, e, hsl⟩, Below.refl _ _⟩
                    intro vn
                    apply OblS.nil
                    apply hK
                    intro w5 hb hH
                    obtain ⟨g0, cap, rfl, hsl⟩ := hH _ (List.mem_cons_self ..)
                    have HLg := Lib.hid hsl
                    clear hH hK K hsl
                    simp only [Act.put, List.setIfInBounds_toArray, List.set_cons_zero, List.set_cons_succ, List.drop_succ_cons, List.drop_zero]
                    replace EE := Lib.hid (EE.out.keep hb); replace XX := Lib.hid (XX.out.after hb); replace cx := XX.out.cell; replace ct := EE.out.tab.cell; replace cm := EE.out.man.cell; replace cs := EE.out.sp.cell; replace co := EE.out.st.cell; clear hb
                    go_wp2_with (first
                      | (go_at_call 17; refine (HSu.out _ EE.out.below _ _ HLg.out).mono ?_; rintro e w17 ⟨rfl, hb⟩; replace EE := Lib.hid (EE.out.keep hb); replace XX := Lib.hid (XX.out.after hb); replace cx := XX.out.cell; replace HLg := Lib.hid (HLg.out.keep hb); replace ct := EE.out.tab.cell; replace cm := EE.out.man.cell; replace cs := EE.out.sp.cell; replace co := EE.out.st.cell; clear hb)
                      | (go_at_call 18; refine (HLs.out _ EE.out.below).mono ?_; rintro e w18 ⟨rfl, hb⟩; replace EE := Lib.hid (EE.out.keep hb); replace XX := Lib.hid (XX.out.after hb); replace cx := XX.out.cell; replace HLg := Lib.hid (HLg.out.keep hb); replace ct := EE.out.tab.cell; replace cm := EE.out.man.cell; replace cs := EE.out.sp.cell; replace co := EE.out.st.cell; clear hb)
                      | (go_at_call 15; refine (knownLaw_c _).mono ?_; rintro e w15 ⟨rfl, hb⟩; have HB := Lib.hid (nextB EE.out.below hb); clear hb))
                    exact bodyPost_ret (results_tmp rfl _ _ _) rfl ⟨rfl, HB.out⟩
                  · have HS2 := HS2' rfl
                    clear HS2'
                    obtain ⟨pA, sA, rA, pn, pc, sn, sc, rn, rc, ps, ss, rs⟩ := t
                    simp only [Tm.tab, Tm.man] at *
                    go_enter Tryz.func5, Tryz.ntmps5
                    go_wp2_with (first
                      | (go_at_call 13; refine (HSh.out _).mono ?_; rintro e w13 ⟨rfl, hb⟩; have EE := Lib.hid (E0.out.keep hb); have ct := EE.out.tab.cell; have cm := EE.out.man.cell; have cs := EE.out.sp.cell; have co := EE.out.st.cell; clear hb)
                      | (go_at_call 14; refine (HFi.out _ EE.out.below).mono ?_; rintro e w14 ⟨rfl, hb⟩; replace EE := Lib.hid (EE.out.keep hb); replace ct := EE.out.tab.cell; replace cm := EE.out.man.cell; replace cs := EE.out.sp.cell; replace co := EE.out.st.cell; clear hb)
                      | (go_at_call 21; refine (HFa.out _).mono ?_; rintro e w21 ⟨rfl, hb⟩; replace EE := Lib.hid (EE.out.keep hb); replace ct := EE.out.tab.cell; replace cm := EE.out.man.cell; replace cs := EE.out.sp.cell; replace co := EE.out.st.cell; clear hb)
                      | (go_at_call 20; refine (HMo.out _ EE.out.below).mono ?_; rintro e w20 ⟨rfl, hb⟩; replace EE := Lib.hid (EE.out.keep hb); replace ct := EE.out.tab.cell; replace cm := EE.out.man.cell; replace cs := EE.out.sp.cell; replace co := EE.out.st.cell; clear hb)
                      | (refine wpList_store_all rfl 31 _ _ rfl w20.heap.size rfl _ rfl 31 _ (Has.new w20 31 _) (by kernel_rfl) rfl (by simp [Value.oneCell']) ?_; have hb := box_below (W := w20) #[.int .i64 0, .int .i64 0] #[.int .i64 c1, .int .i64 c2] 31; have XX := Lib.hid (box_has (W := w20) #[.int .i64 0, .int .i64 0] #[.int .i64 c1, .int .i64 c2] 31); have cx := XX.out.cell; replace EE := Lib.hid (EE.out.keep hb); replace ct := EE.out.tab.cell; replace cm := EE.out.man.cell; replace cs := EE.out.sp.cell; replace co := EE.out.st.cell; clear hb; generalize (w20.alloc (.cells #[.int .i64 0, .int .i64 0] 31)).setRow w20.heap.size #[.int .i64 c1, .int .i64 c2] = wS at *)
                      | (go_at_call 15; refine (knownLaw_c _).mono ?_; rintro e w15 ⟨rfl, hb⟩; have HB := Lib.hid (nextB EE.out.below hb); clear hb))
                    apply wp_floats 12 10 [.v (.agg #[.slice pA pn pc, .slice sA sn sc]), .v (.agg #[.slice rA rn rc]), .v (.slice A n c), .v (.agg #[.int .i64 l, .int .i64 g]), .v (.int .i64 k), .v (.agg #[.int .i64 k, .int .i64 k]), .r (fun v w' => ∃ g0 cap, v = .slice (some ⟨g0, 0, none⟩) (n + 1) cap ∧ SlOf St.cs 4 w' (some ⟨g0, 0, none⟩) (n + 1) (dive ++ [stayS l g k])), .v (.tuple #[.agg #[.int .i64 c1, .int .i64 c2], .int .i64 0]), .v (.tuple #[.agg #[.int .i64 c1, .int .i64 c2], .int .i64 0]), .v (.agg #[.int .i64 c1, .int .i64 c2]), .p (.int .i64 0), .r (NewR wS 31 #[.int .i64 0, .int .i64 0])] (by kernel_rfl) (by kernel_rfl) (by kernel_rfl) (by decide) rfl (by decide) rfl rfl (by kernel_rfl)
                    intro K hK
                    refine OblS.row rfl 25 (.tmp 6) rfl w.heap.size (by kernel_rfl) 25 _ _ EE.out.tab Tryz.underlying25 rfl (by kernel_rfl) ?_
                    refine OblS.row rfl 28 (.tmp 7) rfl (w.heap.size + 1) (by kernel_rfl) 28 _ _ EE.out.man Tryz.underlying28 rfl (by kernel_rfl) ?_
                    refine OblS.val (by kernel_rfl) (fun w' _ _ => (by kernel_rfl)) ?_
                    refine OblS.row rfl 43 (.tmp 9) rfl (w.heap.size + 1 + 1) (by kernel_rfl) 43 _ _ EE.out.sp Tryz.underlying43 rfl (by kernel_rfl) ?_
                    refine OblS.val (by kernel_rfl) (fun w' _ _ => (by kernel_rfl)) ?_
                    refine OblS.call 24 (by kernel_rfl) (fun w' hb _ => ⟨_, (by kernel_rfl), just1_c _ w'⟩) ?_
                    refine OblS.callR 23 (by rintro v x y ⟨g0, cap, e, h⟩ hb; exact ⟨g0, cap, e, h.keep hb⟩) (by kernel_rfl) (fun w' hb _ => ⟨#[.slice A n c, .agg #[.int .i64 l, .int .i64 g], .agg #[.int .i64 k, .int .i64 k]], (by kernel_rfl), (HMr.out _ w' (nextB EE.out.below hb)).mono fun e x ⟨g0, cap, h1, h2, h3⟩ => ⟨_, h1, ⟨g0, cap, rfl, h2⟩, h3⟩⟩) ?_
                    intro vm
                    refine OblS.call 16 (by kernel_rfl) (fun w' hb hH => ?_) ?_
                    · obtain ⟨g0, cap, rfl, hsl⟩ := hH _ (List.mem_cons_self ..) (by kernel_rfl)
                      exact ⟨#[.agg #[.slice pA pn pc, .slice sA sn sc], .agg #[.slice rA rn rc], .slice (some ⟨g0, 0, none⟩) (n + 1) cap], (by kernel_rfl), HS0.out w' (nextB EE.out.below hb) g0 cap hsl⟩
                    refine OblS.val (by kernel_rfl) (fun w' _ _ => (by kernel_rfl)) ?_
                    refine OblS.val (by kernel_rfl) (fun w' _ _ => (by kernel_rfl)) ?_
                    refine OblS.pure (by kernel_rfl) (fun w' => (by kernel_rfl)) ?_
                    refine OblS.makes ⟨rfl, fun a w => by kernel_rfl⟩ ?_
                    intro vb
                    apply OblS.nil
                    apply hK
                    intro w2 hb hH
                    obtain ⟨B, rfl, hB1, hB2⟩ := hH _ (List.mem_cons_self ..)
                    clear hH hK K
                    simp only [Act.put, List.setIfInBounds_toArray, List.set_cons_zero, List.set_cons_succ, List.drop_succ_cons, List.drop_zero]
                    have HBx := Lib.hid hB2
                    dsimp only [OnlyN, Exit.then]
                    go_wp2_with (first
                      | (refine wpList_store_all rfl 31 _ _ rfl B rfl _ rfl 31 _ HBx.out (by kernel_rfl) rfl (by simp [Value.oneCell']) ?_; have hb3 := rowB hb hB1 #[.int .i64 c1, .int .i64 c2]; have YY := Lib.hid (HBx.out.setRow #[.int .i64 c1, .int .i64 c2]); generalize w2.setRow B #[.int .i64 c1, .int .i64 c2] = wT at *; have cYY := YY.out.cell; replace EE := Lib.hid (EE.out.keep hb3); replace XX := Lib.hid (XX.out.after hb3); replace cx := XX.out.cell; replace ct := EE.out.tab.cell; replace cm := EE.out.man.cell; replace cs := EE.out.sp.cell; replace co := EE.out.st.cell; clear hb hb3 hB1 hB2 HBx)
                      | (go_at_call 15; refine (knownLaw_c _).mono ?_; rintro e w15 ⟨rfl, hb⟩; have HB := Lib.hid (nextB EE.out.below hb); clear hb))
                    apply wp_loose 7 (.v (.slice A n c) :: .v (.agg #[.int .i64 l, .int .i64 g]) :: .v (.int .i64 k) :: .v (.int .i64 (k + 1)) :: .v (.agg #[.int .i64 (k + 1), .int .i64 (k + 1)]) :: .r (fun v w' => ∃ g0 cap, v = .slice (some ⟨g0, 0, none⟩) (n + 1) cap ∧ SlOf St.cs 4 w' (some ⟨g0, 0, none⟩) (n + 1) (dive ++ [stayS l g (k + 1)])) :: .r (fun v w' => ∃ g0 cap, v = .slice (some ⟨g0, 0, none⟩) (n + 1) cap ∧ SlOf St.cs 4 w' (some ⟨g0, 0, none⟩) (n + 1) (dive ++ [stayS l g (k + 1)])) :: []) (by kernel_rfl) (by kernel_rfl) (by kernel_rfl) (by decide) rfl
                    intro K hK
                    refine OblS.val (by kernel_rfl) (fun w' _ _ => (by kernel_rfl)) ?_
                    refine OblS.row rfl 43 (.tmp 9) rfl (w.heap.size + 1 + 1) (by kernel_rfl) 43 _ _ EE.out.sp Tryz.underlying43 rfl (by kernel_rfl) ?_
                    refine OblS.val (by kernel_rfl) (fun w' _ _ => (by kernel_rfl)) ?_
                    refine OblS.val (by kernel_rfl) (fun w' _ _ => (by go_simp; try first | done | rfl)) ?_
                    refine OblS.call 24 (by kernel_rfl) (fun w' hb _ => ⟨_, (by kernel_rfl), just1_c _ w'⟩) ?_
                    refine OblS.callR 23 (by rintro v x y ⟨g0, cap, e, h⟩ hb; exact ⟨g0, cap, e, h.keep hb⟩) (by kernel_rfl) (fun w' hb _ => ⟨#[.slice A n c, .agg #[.int .i64 l, .int .i64 g], .agg #[.int .i64 (k + 1), .int .i64 (k + 1)]], (by kernel_rfl), (HMr.out _ w' (nextB EE.out.below hb)).mono fun e x ⟨g0, cap, h1, h2, h3⟩ => ⟨_, h1, ⟨g0, cap, rfl, h2⟩, h3⟩⟩) ?_
                    intro vm
                    refine OblS.run (by rintro v x y ⟨g0, cap, e, h⟩ hb; exact ⟨g0, cap, e, h.keep hb⟩) (by kernel_rfl) (fun w' hb hH => ?_) ?_
                    · obtain ⟨g0, cap, e, hsl⟩ := hH _ (List.mem_cons_self ..) (by kernel_rfl)
                      exact ⟨vm, w', (by kernel_rfl), ⟨g0, cap, e, hsl⟩, Below.refl _ _⟩
                    intro vn
                    apply OblS.nil
                    apply hK
                    intro w5 hb hH
                    obtain ⟨g0, cap, rfl, hsl⟩ := hH _ (List.mem_cons_self ..)
                    have HLg := Lib.hid hsl
                    clear hH hK K hsl
                    simp only [Act.put, List.setIfInBounds_toArray, List.set_cons_zero, List.set_cons_succ, List.drop_succ_cons, List.drop_zero]
                    replace EE := Lib.hid (EE.out.keep hb); replace XX := Lib.hid (XX.out.after hb); replace cx := XX.out.cell; replace ct := EE.out.tab.cell; replace cm := EE.out.man.cell; replace cs := EE.out.sp.cell; replace co := EE.out.st.cell; clear hb
                    go_wp2_with (first
                      | (go_at_call 17; refine (HSu.out _ EE.out.below _ _ HLg.out).mono ?_; rintro e w17 ⟨rfl, hb⟩; replace EE := Lib.hid (EE.out.keep hb); replace XX := Lib.hid (XX.out.after hb); replace cx := XX.out.cell; replace HLg := Lib.hid (HLg.out.keep hb); replace ct := EE.out.tab.cell; replace cm := EE.out.man.cell; replace cs := EE.out.sp.cell; replace co := EE.out.st.cell; clear hb)
                      | (go_at_call 18; refine (HLs.out _ EE.out.below).mono ?_; rintro e w18 ⟨rfl, hb⟩; replace EE := Lib.hid (EE.out.keep hb); replace XX := Lib.hid (XX.out.after hb); replace cx := XX.out.cell; replace HLg := Lib.hid (HLg.out.keep hb); replace ct := EE.out.tab.cell; replace cm := EE.out.man.cell; replace cs := EE.out.sp.cell; replace co := EE.out.st.cell; clear hb)
                      | (go_at_call 15; refine (knownLaw_c _).mono ?_; rintro e w15 ⟨rfl, hb⟩; have HB := Lib.hid (nextB EE.out.below hb); clear hb))
                    apply wp_loose 11 (.v (.agg #[.slice pA pn pc, .slice sA sn sc]) :: .v (.agg #[.slice rA rn rc]) :: .v (.slice (some ⟨g0, 0, none⟩) (n + 1) cap) :: .v (.agg #[.int .i64 a, .int .i64 b]) :: .r (fun v w' => ∃ g1 cap1, v = .slice (some ⟨g1, 0, none⟩) (n + 1 + 1) cap1 ∧ SlOf St.cs 4 w' (some ⟨g1, 0, none⟩) (n + 1 + 1) ((dive ++ [stayS l g (k + 1)]) ++ [stayS a a b])) :: .v (.tuple #[.bool false, .int .i64 0]) :: .v (.tuple #[.bool false, .int .i64 0]) :: .v (.bool false) :: .v (.int .i64 0) :: .v (.bool false) :: .v (.int .i64 0) :: []) (by kernel_rfl) (by kernel_rfl) (by kernel_rfl) (by decide) rfl
                    intro K hK
                    refine OblS.row rfl 25 (.tmp 6) rfl w.heap.size (by kernel_rfl) 25 _ _ EE.out.tab Tryz.underlying25 rfl (by kernel_rfl) ?_
                    refine OblS.row rfl 28 (.tmp 7) rfl (w.heap.size + 1) (by kernel_rfl) 28 _ _ EE.out.man Tryz.underlying28 rfl (by kernel_rfl) ?_
                    refine OblS.val (by kernel_rfl) (fun w' _ _ => (by kernel_rfl)) ?_
                    refine OblS.row rfl 31 (.tmp 11) rfl (w.heap.size + 1 + 1 + 1) (by kernel_rfl) 31 _ _ EE.out.st Tryz.underlying31 rfl (by kernel_rfl) ?_
                    refine OblS.callR 19 (by rintro v x y ⟨g0, cap, e, h⟩ hb; exact ⟨g0, cap, e, h.keep hb⟩) (by kernel_rfl) (fun w' hb _ => ⟨#[.slice (some ⟨g0, 0, none⟩) (n + 1) cap, .agg #[.int .i64 a, .int .i64 b]], (by kernel_rfl), (HSp.out w' g0 cap (HLg.out.keep hb)).mono fun e x ⟨g0, cap, h1, h2, h3⟩ => ⟨_, h1, ⟨g0, cap, rfl, h2⟩, h3⟩⟩) ?_
                    intro vs
                    refine OblS.call 17 (by kernel_rfl) (fun w' hb hH => ?_) ?_
                    · obtain ⟨g1, cap1, rfl, hsl⟩ := hH _ (List.mem_cons_self ..) (by kernel_rfl)
                      exact ⟨#[.agg #[.slice pA pn pc, .slice sA sn sc], .agg #[.slice rA rn rc], .slice (some ⟨g1, 0, none⟩) (n + 1 + 1) cap1], (by kernel_rfl), HS2.out w' (nextB EE.out.below hb) g1 cap1 hsl⟩
                    iterate 5 refine OblS.val (by kernel_rfl) (fun w' _ _ => (by kernel_rfl)) ?_
                    apply OblS.nil
                    apply hK
                    intro w6 hb hH
                    clear hH hK K
                    simp only [Act.put, List.setIfInBounds_toArray, List.set_cons_zero, List.set_cons_succ, List.drop_succ_cons, List.drop_zero]
                    replace EE := Lib.hid (EE.out.keep hb); replace ct := EE.out.tab.cell; replace cm := EE.out.man.cell; replace cs := EE.out.sp.cell; replace co := EE.out.st.cell; clear hb
                    go_wp2_with (first
                      | (go_at_call 15; refine (knownLaw_c _).mono ?_; rintro e w15 ⟨rfl, hb⟩; have HB := Lib.hid (nextB EE.out.below hb); clear hb))
                    exact bodyPost_ret (results_tmp rfl _ _ _) rfl ⟨rfl, HB.out⟩
              · clear HSmm
                cases lq
                · clear HS2' HSp
                  obtain ⟨pA, sA, rA, pn, pc, sn, sc, rn, rc, ps, ss, rs⟩ := t
                  simp only [Tm.tab, Tm.man] at *
                  go_enter Tryz.func5, Tryz.ntmps5
                  go_wp2_with (first
                    | (go_at_call 13; refine (HSh.out _).mono ?_; rintro e w13 ⟨rfl, hb⟩; have EE := Lib.hid (E0.out.keep hb); have ct := EE.out.tab.cell; have cm := EE.out.man.cell; have cs := EE.out.sp.cell; have co := EE.out.st.cell; clear hb)
                    | (go_at_call 14; refine (HFi.out _ EE.out.below).mono ?_; rintro e w14 ⟨rfl, hb⟩; replace EE := Lib.hid (EE.out.keep hb); replace ct := EE.out.tab.cell; replace cm := EE.out.man.cell; replace cs := EE.out.sp.cell; replace co := EE.out.st.cell; clear hb)
                    | (go_at_call 21; refine (HFa.out _).mono ?_; rintro e w21 ⟨rfl, hb⟩; replace EE := Lib.hid (EE.out.keep hb); replace ct := EE.out.tab.cell; replace cm := EE.out.man.cell; replace cs := EE.out.sp.cell; replace co := EE.out.st.cell; clear hb)
                    | (go_at_call 20; refine (HMo.out _ EE.out.below).mono ?_; rintro e w20 ⟨rfl, hb⟩; replace EE := Lib.hid (EE.out.keep hb); replace ct := EE.out.tab.cell; replace cm := EE.out.man.cell; replace cs := EE.out.sp.cell; replace co := EE.out.st.cell; clear hb)
                    | (refine wpList_store_all rfl 31 _ _ rfl w20.heap.size rfl _ rfl 31 _ (Has.new w20 31 _) (by kernel_rfl) rfl (by simp [Value.oneCell']) ?_; have hb := box_below (W := w20) #[.int .i64 0, .int .i64 0] #[.int .i64 c1, .int .i64 c2] 31; have XX := Lib.hid (box_has (W := w20) #[.int .i64 0, .int .i64 0] #[.int .i64 c1, .int .i64 c2] 31); have cx := XX.out.cell; replace EE := Lib.hid (EE.out.keep hb); replace ct := EE.out.tab.cell; replace cm := EE.out.man.cell; replace cs := EE.out.sp.cell; replace co := EE.out.st.cell; clear hb; generalize (w20.alloc (.cells #[.int .i64 0, .int .i64 0] 31)).setRow w20.heap.size #[.int .i64 c1, .int .i64 c2] = wS at *)
                    | (go_at_call 15; refine (knownLaw_c _).mono ?_; rintro e w15 ⟨rfl, hb⟩; have HB := Lib.hid (nextB EE.out.below hb); clear hb))
                  apply wp_floats 12 10 [.v (.agg #[.slice pA pn pc, .slice sA sn sc]), .v (.agg #[.slice rA rn rc]), .v (.slice A n c), .v (.agg #[.int .i64 l, .int .i64 g]), .v (.int .i64 k), .v (.agg #[.int .i64 k, .int .i64 k]), .r (fun v w' => ∃ g0 cap, v = .slice (some ⟨g0, 0, none⟩) (n + 1) cap ∧ SlOf St.cs 4 w' (some ⟨g0, 0, none⟩) (n + 1) (dive ++ [stayS l g k])), .v (.tuple #[.agg #[.int .i64 c1, .int .i64 c2], .int .i64 0]), .v (.tuple #[.agg #[.int .i64 c1, .int .i64 c2], .int .i64 0]), .v (.agg #[.int .i64 c1, .int .i64 c2]), .p (.int .i64 0), .r (NewR wS 31 #[.int .i64 0, .int .i64 0])] (by kernel_rfl) (by kernel_rfl) (by kernel_rfl) (by decide) rfl (by decide) rfl rfl (by kernel_rfl)
                  intro K hK
                  refine OblS.row rfl 25 (.tmp 6) rfl w.heap.size (by kernel_rfl) 25 _ _ EE.out.tab Tryz.underlying25 rfl (by kernel_rfl) ?_
                  refine OblS.row rfl 28 (.tmp 7) rfl (w.heap.size + 1) (by kernel_rfl) 28 _ _ EE.out.man Tryz.underlying28 rfl (by kernel_rfl) ?_
                  refine OblS.val (by kernel_rfl) (fun w' _ _ => (by kernel_rfl)) ?_
                  refine OblS.row rfl 43 (.tmp 9) rfl (w.heap.size + 1 + 1) (by kernel_rfl) 43 _ _ EE.out.sp Tryz.underlying43 rfl (by kernel_rfl) ?_
                  refine OblS.val (by kernel_rfl) (fun w' _ _ => (by kernel_rfl)) ?_
                  refine OblS.call 24 (by kernel_rfl) (fun w' hb _ => ⟨_, (by kernel_rfl), just1_c _ w'⟩) ?_
                  refine OblS.callR 23 (by rintro v x y ⟨g0, cap, e, h⟩ hb; exact ⟨g0, cap, e, h.keep hb⟩) (by kernel_rfl) (fun w' hb _ => ⟨#[.slice A n c, .agg #[.int .i64 l, .int .i64 g], .agg #[.int .i64 k, .int .i64 k]], (by kernel_rfl), (HMr.out _ w' (nextB EE.out.below hb)).mono fun e x ⟨g0, cap, h1, h2, h3⟩ => ⟨_, h1, ⟨g0, cap, rfl, h2⟩, h3⟩⟩) ?_
                  intro vm
                  refine OblS.call 16 (by kernel_rfl) (fun w' hb hH => ?_) ?_
                  · obtain ⟨g0, cap, rfl, hsl⟩ := hH _ (List.mem_cons_self ..) (by kernel_rfl)
                    exact ⟨#[.agg #[.slice pA pn pc, .slice sA sn sc], .agg #[.slice rA rn rc], .slice (some ⟨g0, 0, none⟩) (n + 1) cap], (by kernel_rfl), HS0.out w' (nextB EE.out.below hb) g0 cap hsl⟩
                  refine OblS.val (by kernel_rfl) (fun w' _ _ => (by kernel_rfl)) ?_
                  refine OblS.val (by kernel_rfl) (fun w' _ _ => (by kernel_rfl)) ?_
                  refine OblS.pure (by kernel_rfl) (fun w' => (by kernel_rfl)) ?_
                  refine OblS.makes ⟨rfl, fun a w => by kernel_rfl⟩ ?_
                  intro vb
                  apply OblS.nil
                  apply hK
                  intro w2 hb hH
                  obtain ⟨B, rfl, hB1, hB2⟩ := hH _ (List.mem_cons_self ..)
                  clear hH hK K
                  simp only [Act.put, List.setIfInBounds_toArray, List.set_cons_zero, List.set_cons_succ, List.drop_succ_cons, List.drop_zero]
                  have HBx := Lib.hid hB2
                  dsimp only [OnlyN, Exit.then]
                  go_wp2_with (first
                    | (refine wpList_store_all rfl 31 _ _ rfl B rfl _ rfl 31 _ HBx.out (by kernel_rfl) rfl (by simp [Value.oneCell']) ?_; have hb3 := rowB hb hB1 #[.int .i64 c1, .int .i64 c2]; have YY := Lib.hid (HBx.out.setRow #[.int .i64 c1, .int .i64 c2]); generalize w2.setRow B #[.int .i64 c1, .int .i64 c2] = wT at *; have cYY := YY.out.cell; replace EE := Lib.hid (EE.out.keep hb3); replace XX := Lib.hid (XX.out.after hb3); replace cx := XX.out.cell; replace ct := EE.out.tab.cell; replace cm := EE.out.man.cell; replace cs := EE.out.sp.cell; replace co := EE.out.st.cell; clear hb hb3 hB1 hB2 HBx)
                    | (go_at_call 15; refine (knownLaw_c _).mono ?_; rintro e w15 ⟨rfl, hb⟩; have HB := Lib.hid (nextB EE.out.below hb); clear hb))
                  apply wp_loose 7 (.v (.slice A n c) :: .v (.agg #[.int .i64 l, .int .i64 g]) :: .v (.int .i64 k) :: .v (.int .i64 (k + 1)) :: .v (.agg #[.int .i64 (k + 1), .int .i64 (k + 1)]) :: .r (fun v w' => ∃ g0 cap, v = .slice (some ⟨g0, 0, none⟩) (n + 1) cap ∧ SlOf St.cs 4 w' (some ⟨g0, 0, none⟩) (n + 1) (dive ++ [stayS l g (k + 1)])) :: .r (fun v w' => ∃ g0 cap, v = .slice (some ⟨g0, 0, none⟩) (n + 1) cap ∧ SlOf St.cs 4 w' (some ⟨g0, 0, none⟩) (n + 1) (dive ++ [stayS l g (k + 1)])) :: []) (by kernel_rfl) (by kernel_rfl) (by kernel_rfl) (by decide) rfl
                  intro K hK
                  refine OblS.val (by kernel_rfl) (fun w' _ _ => (by kernel_rfl)) ?_
                  refine OblS.row rfl 43 (.tmp 9) rfl (w.heap.size + 1 + 1) (by kernel_rfl) 43 _ _ EE.out.sp Tryz.underlying43 rfl (by kernel_rfl) ?_
                  refine OblS.val (by kernel_rfl) (fun w' _ _ => (by kernel_rfl)) ?_
                  refine OblS.val (by kernel_rfl) (fun w' _ _ => (by go_simp; try first | done | rfl)) ?_
                  refine OblS.call 24 (by kernel_rfl) (fun w' hb _ => ⟨_, (by kernel_rfl), just1_c _ w'⟩) ?_
                  refine OblS.callR 23 (by rintro v x y ⟨g0, cap, e, h⟩ hb; exact ⟨g0, cap, e, h.keep hb⟩) (by kernel_rfl) (fun w' hb _ => ⟨#[.slice A n c, .agg #[.int .i64 l, .int .i64 g], .agg #[.int .i64 (k + 1), .int .i64 (k + 1)]], (by kernel_rfl), (HMr.out _ w' (nextB EE.out.below hb)).mono fun e x ⟨g0, cap, h1, h2, h3⟩ => ⟨_, h1, ⟨g0, cap, rfl, h2⟩, h3⟩⟩) ?_
                  intro vm
                  refine OblS.run (by rintro v x y ⟨g0, cap, e, h⟩ hb; exact ⟨g0, cap, e, h.keep hb⟩) (by kernel_rfl) (fun w' hb hH => ?_) ?_
                  · obtain ⟨g0, cap, e, hsl⟩ := hH _ (List.mem_cons_self ..) (by kernel_rfl)
                    exact ⟨vm, w', (by kernel_rfl), ⟨g0, cap, e, hsl⟩, Below.refl _ _⟩
                  intro vn
                  apply OblS.nil
                  apply hK
                  intro w5 hb hH
                  obtain ⟨g0, cap, rfl, hsl⟩ := hH _ (List.mem_cons_self ..)
                  have HLg := Lib.hid hsl
                  clear hH hK K hsl
                  simp only [Act.put, List.setIfInBounds_toArray, List.set_cons_zero, List.set_cons_succ, List.drop_succ_cons, List.drop_zero]
                  replace EE := Lib.hid (EE.out.keep hb); replace XX := Lib.hid (XX.out.after hb); replace cx := XX.out.cell; replace ct := EE.out.tab.cell; replace cm := EE.out.man.cell; replace cs := EE.out.sp.cell; replace co := EE.out.st.cell; clear hb
                  go_wp2_with (first
                    | (go_at_call 17; refine (HSu.out _ EE.out.below _ _ HLg.out).mono ?_; rintro e w17 ⟨rfl, hb⟩; replace EE := Lib.hid (EE.out.keep hb); replace XX := Lib.hid (XX.out.after hb); replace cx := XX.out.cell; replace HLg := Lib.hid (HLg.out.keep hb); replace ct := EE.out.tab.cell; replace cm := EE.out.man.cell; replace cs := EE.out.sp.cell; replace co := EE.out.st.cell; clear hb)
                    | (go_at_call 18; refine (HLs.out _ EE.out.below).mono ?_; rintro e w18 ⟨rfl, hb⟩; replace EE := Lib.hid (EE.out.keep hb); replace XX := Lib.hid (XX.out.after hb); replace cx := XX.out.cell; replace HLg := Lib.hid (HLg.out.keep hb); replace ct := EE.out.tab.cell; replace cm := EE.out.man.cell; replace cs := EE.out.sp.cell; replace co := EE.out.st.cell; clear hb)
                    | (go_at_call 15; refine (knownLaw_c _).mono ?_; rintro e w15 ⟨rfl, hb⟩; have HB := Lib.hid (nextB EE.out.below hb); clear hb))
                  exact bodyPost_ret (results_tmp rfl _ _ _) rfl ⟨rfl, HB.out⟩
                · have HS2 := HS2' rfl
                  clear HS2'
                  obtain ⟨pA, sA, rA, pn, pc, sn, sc, rn, rc, ps, ss, rs⟩ := t
                  simp only [Tm.tab, Tm.man] at *
                  go_enter Tryz.func5, Tryz.ntmps5
                  go_wp2_with (first
                    | (go_at_call 13; refine (HSh.out _).mono ?_; rintro e w13 ⟨rfl, hb⟩; have EE := Lib.hid (E0.out.keep hb); have ct := EE.out.tab.cell; have cm := EE.out.man.cell; have cs := EE.out.sp.cell; have co := EE.out.st.cell; clear hb)
                    | (go_at_call 14; refine (HFi.out _ EE.out.below).mono ?_; rintro e w14 ⟨rfl, hb⟩; replace EE := Lib.hid (EE.out.keep hb); replace ct := EE.out.tab.cell; replace cm := EE.out.man.cell; replace cs := EE.out.sp.cell; replace co := EE.out.st.cell; clear hb)
                    | (go_at_call 21; refine (HFa.out _).mono ?_; rintro e w21 ⟨rfl, hb⟩; replace EE := Lib.hid (EE.out.keep hb); replace ct := EE.out.tab.cell; replace cm := EE.out.man.cell; replace cs := EE.out.sp.cell; replace co := EE.out.st.cell; clear hb)
                    | (go_at_call 20; refine (HMo.out _ EE.out.below).mono ?_; rintro e w20 ⟨rfl, hb⟩; replace EE := Lib.hid (EE.out.keep hb); replace ct := EE.out.tab.cell; replace cm := EE.out.man.cell; replace cs := EE.out.sp.cell; replace co := EE.out.st.cell; clear hb)
                    | (refine wpList_store_all rfl 31 _ _ rfl w20.heap.size rfl _ rfl 31 _ (Has.new w20 31 _) (by kernel_rfl) rfl (by simp [Value.oneCell']) ?_; have hb := box_below (W := w20) #[.int .i64 0, .int .i64 0] #[.int .i64 c1, .int .i64 c2] 31; have XX := Lib.hid (box_has (W := w20) #[.int .i64 0, .int .i64 0] #[.int .i64 c1, .int .i64 c2] 31); have cx := XX.out.cell; replace EE := Lib.hid (EE.out.keep hb); replace ct := EE.out.tab.cell; replace cm := EE.out.man.cell; replace cs := EE.out.sp.cell; replace co := EE.out.st.cell; clear hb; generalize (w20.alloc (.cells #[.int .i64 0, .int .i64 0] 31)).setRow w20.heap.size #[.int .i64 c1, .int .i64 c2] = wS at *)
                    | (go_at_call 15; refine (knownLaw_c _).mono ?_; rintro e w15 ⟨rfl, hb⟩; have HB := Lib.hid (nextB EE.out.below hb); clear hb))
                  apply wp_floats 12 10 [.v (.agg #[.slice pA pn pc, .slice sA sn sc]), .v (.agg #[.slice rA rn rc]), .v (.slice A n c), .v (.agg #[.int .i64 l, .int .i64 g]), .v (.int .i64 k), .v (.agg #[.int .i64 k, .int .i64 k]), .r (fun v w' => ∃ g0 cap, v = .slice (some ⟨g0, 0, none⟩) (n + 1) cap ∧ SlOf St.cs 4 w' (some ⟨g0, 0, none⟩) (n + 1) (dive ++ [stayS l g k])), .v (.tuple #[.agg #[.int .i64 c1, .int .i64 c2], .int .i64 0]), .v (.tuple #[.agg #[.int .i64 c1, .int .i64 c2], .int .i64 0]), .v (.agg #[.int .i64 c1, .int .i64 c2]), .p (.int .i64 0), .r (NewR wS 31 #[.int .i64 0, .int .i64 0])] (by kernel_rfl) (by kernel_rfl) (by kernel_rfl) (by decide) rfl (by decide) rfl rfl (by kernel_rfl)
                  intro K hK
                  refine OblS.row rfl 25 (.tmp 6) rfl w.heap.size (by kernel_rfl) 25 _ _ EE.out.tab Tryz.underlying25 rfl (by kernel_rfl) ?_
                  refine OblS.row rfl 28 (.tmp 7) rfl (w.heap.size + 1) (by kernel_rfl) 28 _ _ EE.out.man Tryz.underlying28 rfl (by kernel_rfl) ?_
                  refine OblS.val (by kernel_rfl) (fun w' _ _ => (by kernel_rfl)) ?_
                  refine OblS.row rfl 43 (.tmp 9) rfl (w.heap.size + 1 + 1) (by kernel_rfl) 43 _ _ EE.out.sp Tryz.underlying43 rfl (by kernel_rfl) ?_
                  refine OblS.val (by kernel_rfl) (fun w' _ _ => (by kernel_rfl)) ?_
                  refine OblS.call 24 (by kernel_rfl) (fun w' hb _ => ⟨_, (by kernel_rfl), just1_c _ w'⟩) ?_
                  refine OblS.callR 23 (by rintro v x y ⟨g0, cap, e, h⟩ hb; exact ⟨g0, cap, e, h.keep hb⟩) (by kernel_rfl) (fun w' hb _ => ⟨#[.slice A n c, .agg #[.int .i64 l, .int .i64 g], .agg #[.int .i64 k, .int .i64 k]], (by kernel_rfl), (HMr.out _ w' (nextB EE.out.below hb)).mono fun e x ⟨g0, cap, h1, h2, h3⟩ => ⟨_, h1, ⟨g0, cap, rfl, h2⟩, h3⟩⟩) ?_
                  intro vm
                  refine OblS.call 16 (by kernel_rfl) (fun w' hb hH => ?_) ?_
                  · obtain ⟨g0, cap, rfl, hsl⟩ := hH _ (List.mem_cons_self ..) (by kernel_rfl)
                    exact ⟨#[.agg #[.slice pA pn pc, .slice sA sn sc], .agg #[.slice rA rn rc], .slice (some ⟨g0, 0, none⟩) (n + 1) cap], (by kernel_rfl), HS0.out w' (nextB EE.out.below hb) g0 cap hsl⟩
                  refine OblS.val (by kernel_rfl) (fun w' _ _ => (by kernel_rfl)) ?_
                  refine OblS.val (by kernel_rfl) (fun w' _ _ => (by kernel_rfl)) ?_
                  refine OblS.pure (by kernel_rfl) (fun w' => (by kernel_rfl)) ?_
                  refine OblS.makes ⟨rfl, fun a w => by kernel_rfl⟩ ?_
                  intro vb
                  apply OblS.nil
                  apply hK
                  intro w2 hb hH
                  obtain ⟨B, rfl, hB1, hB2⟩ := hH _ (List.mem_cons_self ..)
                  clear hH hK K
                  simp only [Act.put, List.setIfInBounds_toArray, List.set_cons_zero, List.set_cons_succ, List.drop_succ_cons, List.drop_zero]
                  have HBx := Lib.hid hB2
                  dsimp only [OnlyN, Exit.then]
                  go_wp2_with (first
                    | (refine wpList_store_all rfl 31 _ _ rfl B rfl _ rfl 31 _ HBx.out (by kernel_rfl) rfl (by simp [Value.oneCell']) ?_; have hb3 := rowB hb hB1 #[.int .i64 c1, .int .i64 c2]; have YY := Lib.hid (HBx.out.setRow #[.int .i64 c1, .int .i64 c2]); generalize w2.setRow B #[.int .i64 c1, .int .i64 c2] = wT at *; have cYY := YY.out.cell; replace EE := Lib.hid (EE.out.keep hb3); replace XX := Lib.hid (XX.out.after hb3); replace cx := XX.out.cell; replace ct := EE.out.tab.cell; replace cm := EE.out.man.cell; replace cs := EE.out.sp.cell; replace co := EE.out.st.cell; clear hb hb3 hB1 hB2 HBx)
                    | (go_at_call 15; refine (knownLaw_c _).mono ?_; rintro e w15 ⟨rfl, hb⟩; have HB := Lib.hid (nextB EE.out.below hb); clear hb))
                  apply wp_loose 7 (.v (.slice A n c) :: .v (.agg #[.int .i64 l, .int .i64 g]) :: .v (.int .i64 k) :: .v (.int .i64 (k + 1)) :: .v (.agg #[.int .i64 (k + 1), .int .i64 (k + 1)]) :: .r (fun v w' => ∃ g0 cap, v = .slice (some ⟨g0, 0, none⟩) (n + 1) cap ∧ SlOf St.cs 4 w' (some ⟨g0, 0, none⟩) (n + 1) (dive ++ [stayS l g (k + 1)])) :: .r (fun v w' => ∃ g0 cap, v = .slice (some ⟨g0, 0, none⟩) (n + 1) cap ∧ SlOf St.cs 4 w' (some ⟨g0, 0, none⟩) (n + 1) (dive ++ [stayS l g (k + 1)])) :: []) (by kernel_rfl) (by kernel_rfl) (by kernel_rfl) (by decide) rfl
                  intro K hK
                  refine OblS.val (by kernel_rfl) (fun w' _ _ => (by kernel_rfl)) ?_
                  refine OblS.row rfl 43 (.tmp 9) rfl (w.heap.size + 1 + 1) (by kernel_rfl) 43 _ _ EE.out.sp Tryz.underlying43 rfl (by kernel_rfl) ?_
                  refine OblS.val (by kernel_rfl) (fun w' _ _ => (by kernel_rfl)) ?_
                  refine OblS.val (by kernel_rfl) (fun w' _ _ => (by go_simp; try first | done | rfl)) ?_
                  refine OblS.call 24 (by kernel_rfl) (fun w' hb _ => ⟨_, (by kernel_rfl), just1_c _ w'⟩) ?_
                  refine OblS.callR 23 (by rintro v x y ⟨g0, cap, e, h⟩ hb; exact ⟨g0, cap, e, h.keep hb⟩) (by kernel_rfl) (fun w' hb _ => ⟨#[.slice A n c, .agg #[.int .i64 l, .int .i64 g], .agg #[.int .i64 (k + 1), .int .i64 (k + 1)]], (by kernel_rfl), (HMr.out _ w' (nextB EE.out.below hb)).mono fun e x ⟨g0, cap, h1, h2, h3⟩ => ⟨_, h1, ⟨g0, cap, rfl, h2⟩, h3⟩⟩) ?_
                  intro vm
                  refine OblS.run (by rintro v x y ⟨g0, cap, e, h⟩ hb; exact ⟨g0, cap, e, h.keep hb⟩) (by kernel_rfl) (fun w' hb hH => ?_) ?_
                  · obtain ⟨g0, cap, e, hsl⟩ := hH _ (List.mem_cons_self ..) (by kernel_rfl)
                    exact ⟨vm, w', (by kernel_rfl), ⟨g0, cap, e, hsl⟩, Below.refl _ _⟩
                  intro vn
                  apply OblS.nil
                  apply hK
                  intro w5 hb hH
                  obtain ⟨g0, cap, rfl, hsl⟩ := hH _ (List.mem_cons_self ..)
                  have HLg := Lib.hid hsl
                  clear hH hK K hsl
                  simp only [Act.put, List.setIfInBounds_toArray, List.set_cons_zero, List.set_cons_succ, List.drop_succ_cons, List.drop_zero]
                  replace EE := Lib.hid (EE.out.keep hb); replace XX := Lib.hid (XX.out.after hb); replace cx := XX.out.cell; replace ct := EE.out.tab.cell; replace cm := EE.out.man.cell; replace cs := EE.out.sp.cell; replace co := EE.out.st.cell; clear hb
                  go_wp2_with (first
                    | (go_at_call 17; refine (HSu.out _ EE.out.below _ _ HLg.out).mono ?_; rintro e w17 ⟨rfl, hb⟩; replace EE := Lib.hid (EE.out.keep hb); replace XX := Lib.hid (XX.out.after hb); replace cx := XX.out.cell; replace HLg := Lib.hid (HLg.out.keep hb); replace ct := EE.out.tab.cell; replace cm := EE.out.man.cell; replace cs := EE.out.sp.cell; replace co := EE.out.st.cell; clear hb)
                    | (go_at_call 18; refine (HLs.out _ EE.out.below).mono ?_; rintro e w18 ⟨rfl, hb⟩; replace EE := Lib.hid (EE.out.keep hb); replace XX := Lib.hid (XX.out.after hb); replace cx := XX.out.cell; replace HLg := Lib.hid (HLg.out.keep hb); replace ct := EE.out.tab.cell; replace cm := EE.out.man.cell; replace cs := EE.out.sp.cell; replace co := EE.out.st.cell; clear hb)
                    | (go_at_call 15; refine (knownLaw_c _).mono ?_; rintro e w15 ⟨rfl, hb⟩; have HB := Lib.hid (nextB EE.out.below hb); clear hb))
                  apply wp_loose 11 (.v (.agg #[.slice pA pn pc, .slice sA sn sc]) :: .v (.agg #[.slice rA rn rc]) :: .v (.slice (some ⟨g0, 0, none⟩) (n + 1) cap) :: .v (.agg #[.int .i64 a, .int .i64 b]) :: .r (fun v w' => ∃ g1 cap1, v = .slice (some ⟨g1, 0, none⟩) (n + 1 + 1) cap1 ∧ SlOf St.cs 4 w' (some ⟨g1, 0, none⟩) (n + 1 + 1) ((dive ++ [stayS l g (k + 1)]) ++ [stayS a a b])) :: .v (.tuple #[.bool false, .int .i64 0]) :: .v (.tuple #[.bool false, .int .i64 0]) :: .v (.bool false) :: .v (.int .i64 0) :: .v (.bool false) :: .v (.int .i64 0) :: []) (by kernel_rfl) (by kernel_rfl) (by kernel_rfl) (by decide) rfl
                  intro K hK
                  refine OblS.row rfl 25 (.tmp 6) rfl w.heap.size (by kernel_rfl) 25 _ _ EE.out.tab Tryz.underlying25 rfl (by kernel_rfl) ?_
                  refine OblS.row rfl 28 (.tmp 7) rfl (w.heap.size + 1) (by kernel_rfl) 28 _ _ EE.out.man Tryz.underlying28 rfl (by kernel_rfl) ?_
                  refine OblS.val (by kernel_rfl) (fun w' _ _ => (by kernel_rfl)) ?_
                  refine OblS.row rfl 31 (.tmp 11) rfl (w.heap.size + 1 + 1 + 1) (by kernel_rfl) 31 _ _ EE.out.st Tryz.underlying31 rfl (by kernel_rfl) ?_
                  refine OblS.callR 19 (by rintro v x y ⟨g0, cap, e, h⟩ hb; exact ⟨g0, cap, e, h.keep hb⟩) (by kernel_rfl) (fun w' hb _ => ⟨#[.slice (some ⟨g0, 0, none⟩) (n + 1) cap, .agg #[.int .i64 a, .int .i64 b]], (by kernel_rfl), (HSp.out w' g0 cap (HLg.out.keep hb)).mono fun e x ⟨g0, cap, h1, h2, h3⟩ => ⟨_, h1, ⟨g0, cap, rfl, h2⟩, h3⟩⟩) ?_
                  intro vs
                  refine OblS.call 17 (by kernel_rfl) (fun w' hb hH => ?_) ?_
                  · obtain ⟨g1, cap1, rfl, hsl⟩ := hH _ (List.mem_cons_self ..) (by kernel_rfl)
                    exact ⟨#[.agg #[.slice pA pn pc, .slice sA sn sc], .agg #[.slice rA rn rc], .slice (some ⟨g1, 0, none⟩) (n + 1 + 1) cap1], (by kernel_rfl), HS2.out w' (nextB EE.out.below hb) g1 cap1 hsl⟩
                  iterate 5 refine OblS.val (by kernel_rfl) (fun w' _ _ => (by kernel_rfl)) ?_
                  apply OblS.nil
                  apply hK
                  intro w6 hb hH
                  clear hH hK K
                  simp only [Act.put, List.setIfInBounds_toArray, List.set_cons_zero, List.set_cons_succ, List.drop_succ_cons, List.drop_zero]
                  replace EE := Lib.hid (EE.out.keep hb); replace ct := EE.out.tab.cell; replace cm := EE.out.man.cell; replace cs := EE.out.sp.cell; replace co := EE.out.st.cell; clear hb
                  go_wp2_with (first
                    | (go_at_call 15; refine (knownLaw_c _).mono ?_; rintro e w15 ⟨rfl, hb⟩; have HB := Lib.hid (nextB EE.out.below hb); clear hb))
                  exact bodyPost_ret (results_tmp rfl _ _ _) rfl ⟨rfl, HB.out⟩
        · have hn4b : 4 ≤ n + 1 := by omega
          have hn4c : (4 : Int) ≤ (n : Int) + 1 := by omega
          have hn4d : 3 ≤ n := by omega
          clear hs hi hd hA hsm hdb ho
          obtain ⟨pA, sA, rA, pn, pc, sn, sc, rn, rc, ps, ss, rs⟩ := t
          simp only [Tm.tab, Tm.man] at *
          go_enter Tryz.func5, Tryz.ntmps5
          go_wp2_with (first
            | (go_at_call 13; refine (HSh.out _).mono ?_; rintro e w13 ⟨rfl, hb⟩; have EE := Lib.hid (E0.out.keep hb); have ct := EE.out.tab.cell; have cm := EE.out.man.cell; have cs := EE.out.sp.cell; have co := EE.out.st.cell; clear hb)
            | (go_at_call 14; refine (HFi.out _ EE.out.below).mono ?_; rintro e w14 ⟨rfl, hb⟩; replace EE := Lib.hid (EE.out.keep hb); replace ct := EE.out.tab.cell; replace cm := EE.out.man.cell; replace cs := EE.out.sp.cell; replace co := EE.out.st.cell; clear hb)
            | (go_at_call 21; refine (HFa.out _).mono ?_; rintro e w21 ⟨rfl, hb⟩; replace EE := Lib.hid (EE.out.keep hb); replace ct := EE.out.tab.cell; replace cm := EE.out.man.cell; replace cs := EE.out.sp.cell; replace co := EE.out.st.cell; clear hb)
            | (go_at_call 15; refine (knownLaw_c _).mono ?_; rintro e w15 ⟨rfl, hb⟩; have HB := Lib.hid (nextB EE.out.below hb); clear hb))
          exact bodyPost_ret (results_tmp rfl _ _ _) rfl ⟨rfl, HB.out⟩
end Go.Proofs
namespace Go.Proofs.YtahochgbkhpefabGreatDoor.gasLatest
open Go.ChangeShapes Go.WideShapes Go.ChangeAt Go.RowKit Go.Proofs

theorem own : ownKnob Tryz.prog.godebug = none := by kernel_rfl
theorem laidOut : laidOutB Tryz.prog = true := by kernel_rfl
theorem door_met (os : Os) (args : Array Value) : laidMetH Tryz.prog Rows.gasLatestRow.laid ((World.doorLaid Tryz.prog 400 os).forCall (fun _ _ => 0) ⟨#[], args, []⟩).memory :=
  laidMetH_of_parts3 (fuel := 8) (laidMet_of_run' 8 (by kernel_rfl) (by kernel_rfl)) (by kernel_rfl) (by kernel_rfl)

set_option maxRecDepth 100000 in
theorem lifted (os : Os) (started : os.Started) (H : Type) (enc : TypeId × Value → H) :
    ReturnsInHanded {} Tryz.checked os 5 .any (fun w args => (Rows.gasLatestSpec.pre enc Tryz.prog Tryz.f5 [] false w args ∧ laidMetH Tryz.prog Rows.gasLatestRow.laid w) ∧ sizedMet enc Tryz.prog Tryz.f5 (OpenSpec.ofChange Rows.gasLatestSpec) false w args)
      (Rows.gasLatestSpec.post enc Tryz.prog Tryz.f5 false true false false) := by
  refine returnsInHanded_of_change_and (C := Tryz.checked) (X := fun w _ => laidMetH Tryz.prog Rows.gasLatestRow.laid w) (fun _ _ _ hh h => h.of_heap hh) own started (by kernel_rfl) Tryz.func5
    (ChangeSpec.witness_shaped (enc := enc) (C := Tryz.checked) (os := os) (X := fun w _ => laidMetH Tryz.prog Rows.gasLatestRow.laid w) false (World.doorLaid Tryz.prog 400 os) #[.agg #[.slice none 0 0, .slice none 0 0], .agg #[.slice none 0 0], .slice none 0 0, .agg #[.int .i64 0, .int .i64 0], .int .i64 0, .agg #[.int .i64 0, .int .i64 0]] 8 rfl (World.shaped_of_RefB (by kernel_rfl) (by kernel_rfl)) (by kernel_rfl) (by kernel_rfl) (by kernel_rfl) (door_met os _)) ?_
  intro W base args ds gs before hval0 hW _ _ hL _
  have hval : ∀ (j : Nat) t v, Tryz.f5.params[j]? = some t → args[j]? = some v → Value.okWide Tryz.prog W .any base t v := hval0
  have hW' := hW
  obtain ⟨p, q, hA0, hV, rfl, hfz, hnd⟩ := hW
  have hA : DataW.TrodAll enc Tryz.prog W 0 (fun _ => true) true Tryz.f5.params.toList args.toList ds p := hA0
  rw [Tryz.params5] at hA hval
  obtain ⟨v0, vs0, d0, ds0, p0, q0, hargs, rfl, rfl, h0, r0⟩ := trodAll_cons hA
  obtain ⟨v1, vs1, d1, ds1, p1, q1, rfl, rfl, rfl, h1, r1⟩ := trodAll_cons r0
  obtain ⟨v2, vs2, d2, ds2, p2, q2, rfl, rfl, rfl, h2, r2⟩ := trodAll_cons r1
  obtain ⟨v3, vs3, d3, ds3, p3, q3, rfl, rfl, rfl, h3, r3⟩ := trodAll_cons r2
  obtain ⟨v4, vs4, d4, ds4, p4, q4, rfl, rfl, rfl, h4, r4⟩ := trodAll_cons r3
  obtain ⟨v5, vs5, d5, ds5, p5, q5, rfl, rfl, rfl, h5, r5⟩ := trodAll_cons r4
  obtain ⟨rfl, rfl, rfl⟩ := trodAll_nil r5
  obtain rfl : args = #[v0, v1, v2, v3, v4, v5] := by cases args; simp_all
  obtain ⟨rfl, rfl⟩ := trodVars_none hV
  have k0 := h0
  have lt0 : ∀ x ∈ p0, x.block < W.heap.size := by obtain ⟨m, hm⟩ := k0; exact DataW.trod_lt m _ _ _ hm
  have u0 := hval 0 25 v0 rfl rfl
  obtain ⟨pA, pn, pc, ps, sA, sn, sc, ss, rfl, hP, hS⟩ := arg_table u0 h0
  have k1 := h1
  have lt1 : ∀ x ∈ p1, x.block < W.heap.size := by obtain ⟨m, hm⟩ := k1; exact DataW.trod_lt m _ _ _ hm
  have u1 := hval 1 28 v1 rfl rfl
  obtain ⟨rA, rn, rc, rs, rfl, hR⟩ := arg_man u1 h1
  have k2 := h2
  have lt2 : ∀ x ∈ p2, x.block < W.heap.size := by obtain ⟨m, hm⟩ := k2; exact DataW.trod_lt m _ _ _ hm
  have u2 := hval 2 29 v2 rfl rfl
  obtain ⟨A2, n2, c2, l2, rfl, hd2, hc2, hm2, hA2⟩ := arg_dive u2 h2
  have k3 := h3
  have lt3 : ∀ x ∈ p3, x.block < W.heap.size := by obtain ⟨m, hm⟩ := k3; exact DataW.trod_lt m _ _ _ hm
  have u3 := hval 3 43 v3 rfl rfl
  obtain ⟨a3, b3, rfl, w3, x3⟩ := arg_span u3 h3
  have k4 := h4
  have lt4 : ∀ x ∈ p4, x.block < W.heap.size := by obtain ⟨m, hm⟩ := k4; exact DataW.trod_lt m _ _ _ hm
  have u4 := hval 4 3 v4 rfl rfl
  obtain ⟨a4, rfl, w4⟩ := arg_int u4 h4
  have k5 := h5
  have lt5 : ∀ x ∈ p5, x.block < W.heap.size := by obtain ⟨m, hm⟩ := k5; exact DataW.trod_lt m _ _ _ hm
  have u5 := hval 5 31 v5 rfl rfl
  obtain ⟨a5, b5, rfl, w5, x5⟩ := arg_stop u5 h5
  clear hA0 hval0
  simp only [List.append_nil] at hW'
  refine (gasLatest_walk ⟨pA, sA, rA, pn, pc, sn, sc, rn, rc, ps, ss, rs⟩ A2 n2 c2 l2 hA2 a3 b3 a4 a5 b5 W ⟨hP, hS, hR⟩ hd2).mono fun e W' ⟨he, bel⟩ => ?_
  subst he
  exact ⟨_, rfl, _, _, _, [], _, [], hW', trodAll_mk1 (shut_bool Tryz.underlying4 _), (trodAll_cons_mk (Below.trod laidOut (by kernel_rfl) (of_decide_eq_true (by kernel_rfl)) k0 bel lt0) (trodAll_cons_mk (Below.trod laidOut (by kernel_rfl) (of_decide_eq_true (by kernel_rfl)) k1 bel lt1) (trodAll_cons_mk (Below.trod laidOut (by kernel_rfl) (of_decide_eq_true (by kernel_rfl)) k2 bel lt2) (trodAll_cons_mk (Below.trod laidOut (by kernel_rfl) (of_decide_eq_true (by kernel_rfl)) k3 bel lt3) (trodAll_cons_mk (Below.trod laidOut (by kernel_rfl) (of_decide_eq_true (by kernel_rfl)) k4 bel lt4) (trodAll_cons_mk (Below.trod laidOut (by kernel_rfl) (of_decide_eq_true (by kernel_rfl)) k5 bel lt5) trodAll_mk0)))))), rfl, bel.frame _, fun h => by cases h⟩

theorem row_holds : Rows.GasLatestSaid :=
  OpenClaim.holds_of_wide 5 Tryz.f5 rfl rfl rfl rfl rfl rfl rfl ⟨rfl, rfl, rfl, rfl, rfl⟩ rfl rfl rfl rfl rfl (by kernel_rfl) Tryz.func5 (by kernel_rfl)
    (of_decide_eq_true (by kernel_rfl)) (by unfold Func.isWrapper; first | (rw [if_pos (by decide +kernel)]; kernel_rfl) | (rw [if_neg (by decide +kernel)]; exact ⟨rfl, rfl⟩))
    (fun os started H enc _ => lifted os started H enc)

theorem gasLatest_holds : Rows.GasLatestCardSaid :=
  Claim7.holds_tied_plain_at .later [] [.data, .data, .data] true (true, "4fc05ff97337c211e58e94116c1afb33103fda01ac6f5a8902717e04a03fffff") true
    row_holds (fun _ h => by cases h) (by kernel_rfl) (fun _ h => by cases h) gasLatest_row_tie rfl ⟨rfl, rfl⟩ (by kernel_rfl) rfl
    (fun f fn hf hfn => by
      obtain rfl : f = 5 := Option.some.inj ((show Tryz.prog.funcNamed "bathyal/bathyallaw02.GasLatest" = some 5 by kernel_rfl).symm.trans hf) |>.symm
      obtain rfl : fn = Tryz.f5 := (Option.some.inj (Tryz.func5.symm.trans hfn)).symm
      exact ⟨by kernel_rfl, fun j t ht => by
        rw [Tryz.params5] at ht
        have hm : t ∈ [25, 28, 29, 43, 3, 31] := by simpa using Array.mem_of_getElem? ht
        have hall : ([25, 28, 29, 43, 3, 31].all fun u => !Tryz.prog.wantsStandIn u) = true := by kernel_rfl
        exact (show Tryz.prog.wantsStandIn t = false by simpa using List.all_eq_true.1 hall t hm)⟩)
    (by kernel_rfl)
#print axioms gasLatest_holds
end Go.Proofs.YtahochgbkhpefabGreatDoor.gasLatest
