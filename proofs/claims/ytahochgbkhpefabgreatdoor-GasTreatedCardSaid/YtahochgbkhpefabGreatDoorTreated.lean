/-
  The statement GasTreated holds for every input: the law returns true and what came in reads as before.
-/
import Derived.Test.YtahochgbkhpefabGreatDoorP16
import Derived.Test.YtahochgbkhpefabGreatDoorP11
import Derived.Test.YtahochgbkhpefabGreatDoorRows
import Derived.Test.YtahochgbkhpefabGreatDoorTie
import Derived.Test.YtahochgbkhpefabGreatDoorCards
import Derived.Test.YtahochgbkhpefabGreatDoorChecked
import Derived.ProofKit
import Derived.OpenShut
import Derived.LaidMore
import Derived.Stop.Joined
import Derived.SevenTiedAt
import Derived.Carry
namespace Go.Proofs
open Go.RowKit Go.Shelf Gas
attribute [local go_sem ↓] Go.wp_at_zero Go.wp_at_succ

/-- The boxes of a table, a man, a span and a stop, as a law lays them first. -/
structure Bl (w : World) (t : Tm) (l g a b : Int) (W : World) : Prop where
  below : Below w.heap.size w W
  tab : Has W w.heap.size 25 #[.slice t.pA t.pn t.pc, .slice t.sA t.sn t.sc]
  man : Has W (w.heap.size + 1) 28 #[.slice t.rA t.rn t.rc]
  sp : Has W (w.heap.size + 1 + 1) 43 #[.int .i64 l, .int .i64 g]
  st : Has W (w.heap.size + 1 + 1 + 1) 31 #[.int .i64 a, .int .i64 b]
theorem Bl.keep {w W W' : World} {t : Tm} {l g a b : Int} (h : Bl w t l g a b W) (hb : Below W.heap.size W W') : Bl w t l g a b W' := ⟨nextB h.below hb, h.tab.after hb, h.man.after hb, h.sp.after hb, h.st.after hb⟩
theorem Bl.start (w : World) (t : Tm) (l g a b : Int) : Bl w t l g a b ((((w.alloc (.cells #[.slice t.pA t.pn t.pc, .slice t.sA t.sn t.sc] 25)).alloc (.cells #[.slice t.rA t.rn t.rc] 28)).alloc (.cells #[.int .i64 l, .int .i64 g] 43)).alloc (.cells #[.int .i64 a, .int .i64 b] 31)) :=
  ⟨newB (newB (newB (newB (Below.refl _ _) _) _) _) _, (((Has.new w 25 _).alloc _).alloc _).alloc _, ((Has.new' _ 28 _ (by simp)).alloc _).alloc _, (Has.new' _ 43 _ (by simp)).alloc _, Has.new' _ 31 _ (by simp)⟩

set_option maxHeartbeats 4000000 in
set_option maxRecDepth 50000 in
theorem gasTreated_walk (t : Tm) (A : Option Addr) (n c : Nat) (dive : List St) (hA : A = none → c = 0) (l g a b : Int) (w : World) (hi : t.In w) (hd : SlOf St.cs 4 w A n dive) :
    Calls Tryz.prog 8 #[t.tab, t.man, .slice A n c, .agg #[.int .i64 l, .int .i64 g], .agg #[.int .i64 a, .int .i64 b]] w fun e w' => e = .returned (.bool true) ∧ Below w.heap.size w w' := by
  have HSh := Lib.hid fun (W : World) => short_c t A n c W
  have E0 := Lib.hid (Bl.start w t l g a b)
  cases hs : shortB t n
  · rw [hs] at HSh
    clear hs hi hd hA
    obtain ⟨pA, sA, rA, pn, pc, sn, sc, rn, rc, ps, ss, rs⟩ := t
    simp only [Tm.tab, Tm.man] at *
    go_enter Tryz.func8, Tryz.ntmps8
    go_wp2_with (first
      | (go_at_call 13; refine (HSh.out _).mono ?_; rintro e w13 ⟨rfl, hb⟩; have EE := Lib.hid (E0.out.keep hb); have ct := EE.out.tab.cell; have cm := EE.out.man.cell; have cs := EE.out.sp.cell; have co := EE.out.st.cell; clear hb)
      | (go_at_call 15; refine (knownLaw_c _).mono ?_; rintro e w15 ⟨rfl, hb⟩; have HB := Lib.hid (nextB EE.out.below hb); clear hb))
    exact bodyPost_ret (results_tmp rfl _ _ _) rfl ⟨rfl, HB.out⟩
  · rw [hs] at HSh
    obtain ⟨hsm, hn7⟩ := short_small hs
    have HFi := Lib.hid fun (W : World) (hb : Below w.heap.size w W) => fine_c t hsm A n c dive (by omega) W (hi.keep hb) (hd.keep hb)
    have HTi := Lib.hid fun (W : World) => time_c l g W
    cases hdb : definedB t.ps t.ss t.rs dive 0
    · rw [hdb] at HFi
      clear hs hi hd hA hsm hdb
      obtain ⟨pA, sA, rA, pn, pc, sn, sc, rn, rc, ps, ss, rs⟩ := t
      simp only [Tm.tab, Tm.man] at *
      go_enter Tryz.func8, Tryz.ntmps8
      go_wp2_with (first
        | (go_at_call 13; refine (HSh.out _).mono ?_; rintro e w13 ⟨rfl, hb⟩; have EE := Lib.hid (E0.out.keep hb); have ct := EE.out.tab.cell; have cm := EE.out.man.cell; have cs := EE.out.sp.cell; have co := EE.out.st.cell; clear hb)
        | (go_at_call 14; refine (HFi.out _ EE.out.below).mono ?_; rintro e w14 ⟨rfl, hb⟩; replace EE := Lib.hid (EE.out.keep hb); replace ct := EE.out.tab.cell; replace cm := EE.out.man.cell; replace cs := EE.out.sp.cell; replace co := EE.out.st.cell; clear hb)
        | (go_at_call 15; refine (knownLaw_c _).mono ?_; rintro e w15 ⟨rfl, hb⟩; have HB := Lib.hid (nextB EE.out.below hb); clear hb))
      exact bodyPost_ret (results_tmp rfl _ _ _) rfl ⟨rfl, HB.out⟩
    · rw [hdb] at HFi
      cases ho : ordB l g 0 120 6
      · rw [ho] at HTi
        clear hs hi hd hA hsm hdb ho
        obtain ⟨pA, sA, rA, pn, pc, sn, sc, rn, rc, ps, ss, rs⟩ := t
        simp only [Tm.tab, Tm.man] at *
        go_enter Tryz.func8, Tryz.ntmps8
        go_wp2_with (first
          | (go_at_call 13; refine (HSh.out _).mono ?_; rintro e w13 ⟨rfl, hb⟩; have EE := Lib.hid (E0.out.keep hb); have ct := EE.out.tab.cell; have cm := EE.out.man.cell; have cs := EE.out.sp.cell; have co := EE.out.st.cell; clear hb)
          | (go_at_call 14; refine (HFi.out _ EE.out.below).mono ?_; rintro e w14 ⟨rfl, hb⟩; replace EE := Lib.hid (EE.out.keep hb); replace ct := EE.out.tab.cell; replace cm := EE.out.man.cell; replace cs := EE.out.sp.cell; replace co := EE.out.st.cell; clear hb)
          | (go_at_call 30; refine (HTi.out _).mono ?_; rintro e w30 ⟨rfl, hb⟩; replace EE := Lib.hid (EE.out.keep hb); replace ct := EE.out.tab.cell; replace cm := EE.out.man.cell; replace cs := EE.out.sp.cell; replace co := EE.out.st.cell; clear hb)
          | (go_at_call 15; refine (knownLaw_c _).mono ?_; rintro e w15 ⟨rfl, hb⟩; have HB := Lib.hid (nextB EE.out.below hb); clear hb))
        exact bodyPost_ret (results_tmp rfl _ _ _) rfl ⟨rfl, HB.out⟩
      · rw [ho] at HTi
        have hw0 : IntKind.i64.wrap ((n : Int) + 1) = (n : Int) + 1 := wI (by omega) (by omega)
        by_cases hn4 : n < 3
        · have hn4b : ¬ 4 ≤ n + 1 := by omega
          have hn4c : ¬ (4 : Int) ≤ (n : Int) + 1 := by omega
          have hn4d : ¬ 3 ≤ n := by omega
          have hw1 : IntKind.i64.wrap ((n : Int) + 1 + 2) = (n : Int) + 3 := by rw [show (n : Int) + 1 + 2 = (n : Int) + 3 by omega]; exact wI (by omega) (by omega)
          have hw2 : IntKind.i64.wrap ((n : Int) + 1 + 1) = (n : Int) + 2 := by rw [show (n : Int) + 1 + 1 = (n : Int) + 2 by omega]; exact wI (by omega) (by omega)
          have hdl := hd.1
          obtain ⟨hok, _, _⟩ := defined_ok hsm hi hdb
          have hpn := hi.ps.1
          obtain ⟨HTr0, hch⟩ := treat_sem hdb (by omega) ho
          have HCh := Lib.hid fun (W : World) (hb : Below w.heap.size w W) => Chamber_c t hsm A n c dive l g (by omega) W (hi.keep hb) (hd.keep hb)
          have HMr := Lib.hid fun (W : World) (hb : Below w.heap.size w W) => More_c A n c dive hA (by omega) 0 0 l g W (hd.keep hb)
          have HSp := Lib.hid fun (x y : Int) (W : World) (g0 cap : Nat) (hsl : SlOf St.cs 4 W (some ⟨g0, 0, none⟩) (n + 1) (dive ++ [topS l g])) => stopped_c (some ⟨g0, 0, none⟩) (n + 1) cap (dive ++ [topS l g]) (fun h => by cases h) (by omega) x y W hsl
          have HKn := Lib.hid fun (x y : Int) (d1 : 1 ≤ x) (d2 : x ≤ 40) (e1 : 1 ≤ y) (e2 : y ≤ 30) (W : World) (hb : Below w.heap.size w W) (g0 cap : Nat) (hsl : SlOf St.cs 4 W (some ⟨g0, 0, none⟩) (n + 1 + 1) ((dive ++ [topS l g]) ++ [stayS x x y])) =>
            (show Calls Tryz.prog 32 #[t.tab, t.man, .slice (some ⟨g0, 0, none⟩) (n + 1 + 1) cap] W fun e w' => ∃ A' c', e = .returned (.tuple #[.slice A' (n + 3) c', .int .i64 0]) ∧ Lists w' W.heap.size (.slice A' (n + 3) c') t.pn (knownF t ((dive ++ [topS l g]) ++ [stayS x x y])) ∧ Below W.heap.size W w' by
              obtain ⟨q1, q2, _, _⟩ := HTr0 x y d1 d2 e1 e2
              have := Known_c t hsm (some ⟨g0, 0, none⟩) (n + 1 + 1) cap ((dive ++ [topS l g]) ++ [stayS x x y]) (fun h => by cases h) (by omega) W (hi.keep hb) hsl
              rw [q1] at this
              refine this.mono fun e w' (⟨v, h1, h2, h3⟩ : IsKnown W t.pn _ (errI true) e w') => ?_
              obtain ⟨A', c', rfl⟩ := h2.form2
              rw [q2, hdl] at h1 h2
              exact ⟨A', c', h1, h2, h3⟩)
          have HTr := Lib.hid fun (x y : Int) (d1 : 1 ≤ x) (d2 : x ≤ 40) (e1 : 1 ≤ y) (e2 : y ≤ 30) => (show True ∧ (knownF t ((dive ++ [topS l g]) ++ [stayS x x y])).length = n + 3 ∧ (knownF t ((dive ++ [topS l g]) ++ [stayS x x y]))[n + 1]? = some (spansOf t.rs (stayH (folS t.ps t.rs (h0, true) dive).1 (topS l g)) t.pn) ∧ (knownF t ((dive ++ [topS l g]) ++ [stayS x x y]))[n + 2]? = some (spansOf t.rs (stayH (stayH (folS t.ps t.rs (h0, true) dive).1 (topS l g)) (stayS x x y)) t.pn) by
            obtain ⟨_, q2, q3, q4⟩ := HTr0 x y d1 d2 e1 e2
            rw [hdl] at q2 q3 q4
            exact ⟨trivial, q2, q3, q4⟩)
          have HAb := Lib.hid fun (D : Nat) (sp : List Pr) (d : Int) (hdd : 0 ≤ d ∧ d ≤ 100) (W : World) (hb : Below w.heap.size w W) (hs : SlOf prC 2 W (some ⟨D, 0, none⟩) t.pn sp) => above_c t hsm.p (fun k hk => hok.part hk) D t.pn sp d hdd W (hi.ps.keep hb) hs
          have HIf := Lib.hid fun (h : Nat → Int → Pr) (d : Int) => abvF_enter (rs := t.rs) h d hpn
          generalize stayH (folS t.ps t.rs (h0, true) dive).1 (topS l g) = H0 at *
          clear hs hi hd hA hsm hdb ho hok HTr0 hdl hpn
          rcases hch with ⟨hc1, hc2⟩ | ⟨sd, sm, hc1, d1, d2, e1, e2, hc3, hc4⟩
          · rw [hc1, show stE ((0, 0), 5) = .tuple #[.agg #[.int .i64 0, .int .i64 0], .int .i64 5] from rfl] at HCh
            have HCmp := Lib.hid hc2
            clear hc1 hc2
            obtain ⟨pA, sA, rA, pn, pc, sn, sc, rn, rc, ps, ss, rs⟩ := t
            simp only [Tm.tab, Tm.man] at *
            go_enter Tryz.func8, Tryz.ntmps8
            go_wp2_with (first
              | (go_at_call 13; refine (HSh.out _).mono ?_; rintro e w13 ⟨rfl, hb⟩; have EE := Lib.hid (E0.out.keep hb); have ct := EE.out.tab.cell; have cm := EE.out.man.cell; have cs := EE.out.sp.cell; have co := EE.out.st.cell; clear hb)
              | (go_at_call 14; refine (HFi.out _ EE.out.below).mono ?_; rintro e w14 ⟨rfl, hb⟩; replace EE := Lib.hid (EE.out.keep hb); replace ct := EE.out.tab.cell; replace cm := EE.out.man.cell; replace cs := EE.out.sp.cell; replace co := EE.out.st.cell; clear hb)
              | (go_at_call 30; refine (HTi.out _).mono ?_; rintro e w30 ⟨rfl, hb⟩; replace EE := Lib.hid (EE.out.keep hb); replace ct := EE.out.tab.cell; replace cm := EE.out.man.cell; replace cs := EE.out.sp.cell; replace co := EE.out.st.cell; clear hb)
              | (go_at_call 31; refine (HCh.out _ EE.out.below).mono ?_; rintro e w31 ⟨rfl, hb⟩; replace EE := Lib.hid (EE.out.keep hb); replace ct := EE.out.tab.cell; replace cm := EE.out.man.cell; replace cs := EE.out.sp.cell; replace co := EE.out.st.cell; clear hb)
              | (refine wpList_store_all rfl 31 _ _ rfl w31.heap.size rfl _ rfl 31 _ (Has.new w31 31 _) (by kernel_rfl) rfl (by simp [Value.oneCell']) ?_; have hb := box_below (W := w31) #[.int .i64 0, .int .i64 0] #[.int .i64 0, .int .i64 0] 31; have XX := Lib.hid (box_has (W := w31) #[.int .i64 0, .int .i64 0] #[.int .i64 0, .int .i64 0] 31); have cx := XX.out.cell; replace EE := Lib.hid (EE.out.keep hb); replace ct := EE.out.tab.cell; replace cm := EE.out.man.cell; replace cs := EE.out.sp.cell; replace co := EE.out.st.cell; clear hb)
              | (go_at_call 15; refine (knownLaw_c _).mono ?_; rintro e w15 ⟨rfl, hb⟩; have HB := Lib.hid (nextB EE.out.below hb); clear hb))
            apply wp_loose 5 (.v (.slice A n c) :: .v (.agg #[.int .i64 0, .int .i64 0]) :: .v (.agg #[.int .i64 l, .int .i64 g]) :: .r (fun v w' => ∃ g0 cap, v = .slice (some ⟨g0, 0, none⟩) (n + 1) cap ∧ SlOf St.cs 4 w' (some ⟨g0, 0, none⟩) (n + 1) (dive ++ [topS l g])) :: .r (fun v w' => ∃ g0 cap, v = .slice (some ⟨g0, 0, none⟩) (n + 1) cap ∧ SlOf St.cs 4 w' (some ⟨g0, 0, none⟩) (n + 1) (dive ++ [topS l g])) :: []) (by kernel_rfl) (by kernel_rfl) (by kernel_rfl) (by decide) rfl
            intro K hK
            refine OblS.val (by kernel_rfl) (fun w' _ _ => (by kernel_rfl)) ?_
            refine OblS.call 24 (by kernel_rfl) (fun w' hb _ => ⟨_, (by kernel_rfl), just1_c _ w'⟩) ?_
            refine OblS.row rfl 43 (.tmp 8) rfl (w.heap.size + 1 + 1) (by kernel_rfl) 43 _ _ EE.out.sp Tryz.underlying43 rfl (by kernel_rfl) ?_
            refine OblS.callR 23 (by rintro v x y ⟨g0, cap, e, h⟩ hb; exact ⟨g0, cap, e, h.keep hb⟩) (by kernel_rfl) (fun w' hb _ => ⟨#[.slice A n c, .agg #[.int .i64 0, .int .i64 0], .agg #[.int .i64 l, .int .i64 g]], (by kernel_rfl), (HMr.out w' (nextB EE.out.below hb)).mono fun e x ⟨g0, cap, h1, h2, h3⟩ => ⟨_, h1, ⟨g0, cap, rfl, h2⟩, h3⟩⟩) ?_
            intro vm
            refine OblS.run (by rintro v x y ⟨g0, cap, e, h⟩ hb; exact ⟨g0, cap, e, h.keep hb⟩) (by kernel_rfl) (fun w' hb hH => ?_) ?_
            · obtain ⟨g0, cap, e, hsl⟩ := hH _ (List.mem_cons_self ..) (by kernel_rfl)
              exact ⟨vm, w', (by kernel_rfl), ⟨g0, cap, e, hsl⟩, Below.refl _ _⟩
            intro vn
            apply OblS.nil
            apply hK
            intro w5 hb hH
            obtain ⟨g0, cap, rfl, hsl⟩ := hH _ (List.mem_cons_self ..)
            have HLt := Lib.hid hsl
            clear hH hK K hsl
            simp only [Act.put, List.setIfInBounds_toArray, List.set_cons_zero, List.set_cons_succ, List.drop_succ_cons, List.drop_zero]
            replace EE := Lib.hid (EE.out.keep hb); replace XX := Lib.hid (XX.out.after hb); replace cx := XX.out.cell; replace ct := EE.out.tab.cell; replace cm := EE.out.man.cell; replace cs := EE.out.sp.cell; replace co := EE.out.st.cell; clear hb
            by_cases a1 : 1 ≤ a
            · by_cases a2 : a ≤ 40
              · by_cases b1 : 1 ≤ b
                · by_cases b2 : b ≤ 30
                  · have n1 : ¬ a < 1 := by omega
                    have n2 : ¬ a > 40 := by omega
                    have n3 : ¬ b < 1 := by omega
                    have n4 : ¬ b > 30 := by omega
                    have HKb := Lib.hid (HKn.out a b (by omega) (by omega) (by omega) (by omega))
                    have hcmp := HCmp.out a b (by omega) (by omega) (by omega) (by omega)
                    go_wp2_with (first
                      | (go_at_call 15; refine (knownLaw_c _).mono ?_; rintro e w15 ⟨rfl, hb⟩; have HB := Lib.hid (nextB EE.out.below hb); clear hb))
                    apply wp_loose 11 (.v (.agg #[.slice pA pn pc, .slice sA sn sc]) :: .v (.agg #[.slice rA rn rc]) :: .v (.slice (some ⟨g0, 0, none⟩) (n + 1) cap) :: .v (.agg #[.int .i64 a, .int .i64 b]) :: .r (fun v w' => ∃ g1 cap1, v = .slice (some ⟨g1, 0, none⟩) (n + 1 + 1) cap1 ∧ SlOf St.cs 4 w' (some ⟨g1, 0, none⟩) (n + 1 + 1) ((dive ++ [topS l g]) ++ [stayS a a b])) :: .r (fun v w' => ∃ A' c' bs, v = .tuple #[.slice A' (n + 3) c', .int .i64 0] ∧ Lists w' bs (.slice A' (n + 3) c') pn (knownF ⟨pA, sA, rA, pn, pc, sn, sc, rn, rc, ps, ss, rs⟩ ((dive ++ [topS l g]) ++ [stayS a a b]))) :: .r (fun v w' => ∃ A' c' bs, v = .tuple #[.slice A' (n + 3) c', .int .i64 0] ∧ Lists w' bs (.slice A' (n + 3) c') pn (knownF ⟨pA, sA, rA, pn, pc, sn, sc, rn, rc, ps, ss, rs⟩ ((dive ++ [topS l g]) ++ [stayS a a b]))) :: .r (fun v w' => ∃ A' c' bs, v = .slice A' (n + 3) c' ∧ Lists w' bs (.slice A' (n + 3) c') pn (knownF ⟨pA, sA, rA, pn, pc, sn, sc, rn, rc, ps, ss, rs⟩ ((dive ++ [topS l g]) ++ [stayS a a b]))) :: .v (.int .i64 0) :: .r (fun v w' => ∃ A' c' bs, v = .slice A' (n + 3) c' ∧ Lists w' bs (.slice A' (n + 3) c') pn (knownF ⟨pA, sA, rA, pn, pc, sn, sc, rn, rc, ps, ss, rs⟩ ((dive ++ [topS l g]) ++ [stayS a a b]))) :: .v (.int .i64 0) :: []) (by kernel_rfl) (by kernel_rfl) (by kernel_rfl) (by decide) rfl
                    intro K hK
                    refine OblS.row rfl 25 (.tmp 5) rfl w.heap.size (by kernel_rfl) 25 _ _ EE.out.tab Tryz.underlying25 rfl (by kernel_rfl) ?_
                    refine OblS.row rfl 28 (.tmp 6) rfl (w.heap.size + 1) (by kernel_rfl) 28 _ _ EE.out.man Tryz.underlying28 rfl (by kernel_rfl) ?_
                    refine OblS.val (by kernel_rfl) (fun w' _ _ => (by kernel_rfl)) ?_
                    refine OblS.row rfl 31 (.tmp 9) rfl (w.heap.size + 1 + 1 + 1) (by kernel_rfl) 31 _ _ EE.out.st Tryz.underlying31 rfl (by kernel_rfl) ?_
                    refine OblS.callR 19 (by rintro v x y ⟨g0, cap, e, h⟩ hb; exact ⟨g0, cap, e, h.keep hb⟩) (by kernel_rfl) (fun w' hb _ => ⟨#[.slice (some ⟨g0, 0, none⟩) (n + 1) cap, .agg #[.int .i64 a, .int .i64 b]], (by kernel_rfl), (HSp.out _ _ w' g0 cap (HLt.out.keep hb)).mono fun e x ⟨g0, cap, h1, h2, h3⟩ => ⟨_, h1, ⟨g0, cap, rfl, h2⟩, h3⟩⟩) ?_
                    intro vs
                    refine OblS.callR 32 (by rintro v x y ⟨A', c', bs, e, h⟩ hb; exact ⟨A', c', bs, e, h.keep hb⟩) (by kernel_rfl) (fun w' hb hH => ?_) ?_
                    · obtain ⟨g1, cap1, rfl, hsl⟩ := hH _ (List.mem_cons_self ..) (by kernel_rfl)
                      exact ⟨#[.agg #[.slice pA pn pc, .slice sA sn sc], .agg #[.slice rA rn rc], .slice (some ⟨g1, 0, none⟩) (n + 1 + 1) cap1], (by kernel_rfl), (HKb.out w' (nextB EE.out.below hb) g1 cap1 hsl).mono fun e x ⟨A', c', h1, h2, h3⟩ => ⟨_, h1, ⟨A', c', _, rfl, h2⟩, h3⟩⟩
                    intro vk
                    refine OblS.run (by rintro v x y ⟨A', c', bs, e, h⟩ hb; exact ⟨A', c', bs, e, h.keep hb⟩) (by kernel_rfl) (fun w' hb hH => ?_) ?_
                    · obtain ⟨A', c', bs, e, h⟩ := hH _ (List.mem_cons_self ..) (by kernel_rfl)
                      exact ⟨vk, w', (by kernel_rfl), ⟨A', c', bs, e, h⟩, Below.refl _ _⟩
                    intro vl
                    refine OblS.run (by rintro v x y ⟨A', c', bs, e, h⟩ hb; exact ⟨A', c', bs, e, h.keep hb⟩) (by kernel_rfl) (fun w' hb hH => ?_) ?_
                    · obtain ⟨A', c', bs, rfl, h⟩ := hH _ (List.mem_cons_self ..) (by kernel_rfl)
                      exact ⟨.slice A' (n + 3) c', w', (by kernel_rfl), ⟨A', c', bs, rfl, h⟩, Below.refl _ _⟩
                    intro vo
                    refine OblS.val (by kernel_rfl) (fun w' hb hH => ?_) ?_
                    · obtain ⟨A', c', bs, rfl, h⟩ := hH _ (List.mem_cons_of_mem _ (List.mem_cons_self ..)) (by kernel_rfl)
                      kernel_rfl
                    refine OblS.run (by rintro v x y ⟨A', c', bs, e, h⟩ hb; exact ⟨A', c', bs, e, h.keep hb⟩) (by kernel_rfl) (fun w' hb hH => ?_) ?_
                    · obtain ⟨A', c', bs, e, h⟩ := hH _ (List.mem_cons_self ..) (by kernel_rfl)
                      exact ⟨vo, w', (by kernel_rfl), ⟨A', c', bs, e, h⟩, Below.refl _ _⟩
                    intro vp
                    refine OblS.val (by kernel_rfl) (fun w' _ _ => (by kernel_rfl)) ?_
                    apply OblS.nil
                    apply hK
                    intro w6 hb hH
                    obtain ⟨A', c', bs, rfl, hls⟩ := hH _ (List.mem_cons_self ..)
                    have HKl := Lib.hid hls
                    clear hH hK K hls
                    simp only [Act.put, List.setIfInBounds_toArray, List.set_cons_zero, List.set_cons_succ, List.drop_succ_cons, List.drop_zero]
                    replace EE := Lib.hid (EE.out.keep hb); replace XX := Lib.hid (XX.out.after hb); replace cx := XX.out.cell; replace HLt := Lib.hid (HLt.out.keep hb); replace ct := EE.out.tab.cell; replace cm := EE.out.man.cell; replace cs := EE.out.sp.cell; replace co := EE.out.st.cell; clear hb
                    obtain ⟨k0, k1, k2, k3⟩ := HTr.out a b (by omega) (by omega) (by omega) (by omega)
                    obtain ⟨gq, D1, rfl, hq1, hs1⟩ := HKl.out.at2 k2 k1
                    obtain ⟨gr, D2, er, hq2, hs2⟩ := HKl.out.at2 k3 k1
                    cases er
                    have Q1 := Lib.hid hq1; have Q2 := Lib.hid hq2; have S1 := Lib.hid hs1; have S2 := Lib.hid hs2
                    clear hq1 hq2 hs1 hs2 k0 k1 k2 k3
                    go_wp2
                    have iff1 := HIf.out H0 a
                    have iff2 := HIf.out (stayH H0 (stayS a a b)) 0
                    have ge1 := abvF_ge ps (spansOf rs H0 pn) a pn
                    have ge2 := abvF_ge ps (spansOf rs (stayH H0 (stayS a a b)) pn) 0 pn
                    generalize hx : abvF ps (spansOf rs H0 pn) a pn = x at *
                    generalize hy : abvF ps (spansOf rs (stayH H0 (stayS a a b)) pn) 0 pn = y at *
                    have ax := hx
                    have ay := hy
                    by_cases hx0 : 0 ≤ x
                    · have hx1 : ¬ x = -2 := by omega
                      by_cases hy0 : y = -2
                      · omega
                      · have hy2 : (y == -2) = false := by simpa using hy0
                        clear hcmp iff1 iff2 ge1 ge2 hx hy
                        apply wp_loose 19 (.v (.agg #[.slice pA pn pc, .slice sA sn sc]) :: .v (.slice (some ⟨gq, 0, none⟩) (n + 3) c') :: .v (.slice (some ⟨g0, 0, none⟩) (n + 1) cap) :: .v (.int .i64 ((n : Int) + 1)) :: .v (.pointer (some ⟨gq, n + 1, none⟩)) :: .v (.slice (some ⟨D1, 0, none⟩) pn pn) :: .v (.pointer (some ⟨w.heap.size + 1 + 1 + 1, 0, none⟩)) :: .v (.int .i64 a) :: .v (.int .i64 x) :: .v (.agg #[.slice pA pn pc, .slice sA sn sc]) :: .v (.slice (some ⟨gq, 0, none⟩) (n + 3) c') :: .v (.slice (some ⟨g0, 0, none⟩) (n + 1) cap) :: .v (.int .i64 ((n : Int) + 1)) :: .v (.int .i64 ((n : Int) + 2)) :: .v (.pointer (some ⟨gq, n + 2, none⟩)) :: .v (.slice (some ⟨D2, 0, none⟩) pn pn) :: .v (.int .i64 y) :: .v (.int .i64 x) :: .v (.int .i64 y) :: []) (by kernel_rfl) (by kernel_rfl) (by kernel_rfl) (by decide) rfl
                        intro K hK
                        refine OblS.rowG (by kernel_rfl) 25 (.tmp 5) rfl w.heap.size (by kernel_rfl) 25 _ _ EE.out.tab Tryz.underlying25 rfl (by kernel_rfl) ?_
                        iterate 7 refine OblS.val (by kernel_rfl) (fun w' hb _ => (by have := (EE.out.keep hb).tab.cell; have := (EE.out.keep hb).st.cell; have := (XX.out.after hb).cell; have := ccell hb Q1.out; have := ccell hb Q2.out; go_simp; try first | done | rfl | (intro h; omega))) ?_
                        refine OblS.call 33 (by kernel_rfl) (fun w' hb _ => ⟨#[.agg #[.slice pA pn pc, .slice sA sn sc], .slice (some ⟨D1, 0, none⟩) pn pn, .int .i64 a], (by kernel_rfl), (show Calls Tryz.prog 33 _ w' fun e w2 => e = .returned (.int .i64 x) ∧ Below w'.heap.size w' w2 from by rw [← ax]; exact HAb.out D1 _ a (by omega) w' (nextB EE.out.below hb) (S1.out.keep hb))⟩) ?_
                        refine OblS.rowG (by kernel_rfl) 25 (.tmp 5) rfl w.heap.size (by kernel_rfl) 25 _ _ EE.out.tab Tryz.underlying25 rfl (by kernel_rfl) ?_
                        iterate 6 refine OblS.val (by kernel_rfl) (fun w' hb _ => (by have := (EE.out.keep hb).tab.cell; have := (EE.out.keep hb).st.cell; have := (XX.out.after hb).cell; have := ccell hb Q1.out; have := ccell hb Q2.out; go_simp; try first | done | rfl | (intro h; omega))) ?_
                        refine OblS.call 33 (by kernel_rfl) (fun w' hb _ => ⟨#[.agg #[.slice pA pn pc, .slice sA sn sc], .slice (some ⟨D2, 0, none⟩) pn pn, .int .i64 0], (by kernel_rfl), (show Calls Tryz.prog 33 _ w' fun e w2 => e = .returned (.int .i64 y) ∧ Below w'.heap.size w' w2 from by rw [← ay]; exact HAb.out D2 _ 0 (by omega) w' (nextB EE.out.below hb) (S2.out.keep hb))⟩) ?_
                        iterate 2 refine OblS.val (by kernel_rfl) (fun w' hb _ => (by have := (EE.out.keep hb).tab.cell; have := (EE.out.keep hb).st.cell; have := (XX.out.after hb).cell; have := ccell hb Q1.out; have := ccell hb Q2.out; go_simp; try first | done | rfl | (intro h; omega))) ?_
                        apply OblS.nil
                        apply hK
                        intro w8 hb hH
                        clear hH hK K
                        simp only [Act.put, List.setIfInBounds_toArray, List.set_cons_zero, List.set_cons_succ, List.drop_succ_cons, List.drop_zero]
                        replace EE := Lib.hid (EE.out.keep hb); replace XX := Lib.hid (XX.out.after hb); replace cx := XX.out.cell; replace HLt := Lib.hid (HLt.out.keep hb); replace ct := EE.out.tab.cell; replace cm := EE.out.man.cell; replace cs := EE.out.sp.cell; replace co := EE.out.st.cell; clear hb Q1 Q2 S1 S2
                        go_wp2_with (first
                          | (go_at_call 15; refine (knownLaw_c _).mono ?_; rintro e w15 ⟨rfl, hb⟩; have HB := Lib.hid (nextB EE.out.below hb); clear hb))
                        exact bodyPost_ret (results_tmp rfl _ _ _) rfl ⟨rfl, HB.out⟩
                    · have hxm : x = -1 := by omega
                      subst hxm
                      by_cases hy0 : 0 ≤ y
                      · have hy1 : ¬ y = -2 := by omega
                        have hy2 : (y == -2) = false := by simpa using hy1
                        clear hcmp iff1 iff2 ge1 ge2 hx hy
                        apply wp_loose 19 (.v (.agg #[.slice pA pn pc, .slice sA sn sc]) :: .v (.slice (some ⟨gq, 0, none⟩) (n + 3) c') :: .v (.slice (some ⟨g0, 0, none⟩) (n + 1) cap) :: .v (.int .i64 ((n : Int) + 1)) :: .v (.pointer (some ⟨gq, n + 1, none⟩)) :: .v (.slice (some ⟨D1, 0, none⟩) pn pn) :: .v (.pointer (some ⟨w.heap.size + 1 + 1 + 1, 0, none⟩)) :: .v (.int .i64 a) :: .v (.int .i64 (-1)) :: .v (.agg #[.slice pA pn pc, .slice sA sn sc]) :: .v (.slice (some ⟨gq, 0, none⟩) (n + 3) c') :: .v (.slice (some ⟨g0, 0, none⟩) (n + 1) cap) :: .v (.int .i64 ((n : Int) + 1)) :: .v (.int .i64 ((n : Int) + 2)) :: .v (.pointer (some ⟨gq, n + 2, none⟩)) :: .v (.slice (some ⟨D2, 0, none⟩) pn pn) :: .v (.int .i64 y) :: .v (.int .i64 (-1)) :: .v (.int .i64 y) :: []) (by kernel_rfl) (by kernel_rfl) (by kernel_rfl) (by decide) rfl
                        intro K hK
                        refine OblS.rowG (by kernel_rfl) 25 (.tmp 5) rfl w.heap.size (by kernel_rfl) 25 _ _ EE.out.tab Tryz.underlying25 rfl (by kernel_rfl) ?_
                        iterate 7 refine OblS.val (by kernel_rfl) (fun w' hb _ => (by have := (EE.out.keep hb).tab.cell; have := (EE.out.keep hb).st.cell; have := (XX.out.after hb).cell; have := ccell hb Q1.out; have := ccell hb Q2.out; go_simp; try first | done | rfl | (intro h; omega))) ?_
                        refine OblS.call 33 (by kernel_rfl) (fun w' hb _ => ⟨#[.agg #[.slice pA pn pc, .slice sA sn sc], .slice (some ⟨D1, 0, none⟩) pn pn, .int .i64 a], (by kernel_rfl), (show Calls Tryz.prog 33 _ w' fun e w2 => e = .returned (.int .i64 (-1)) ∧ Below w'.heap.size w' w2 from by rw [← ax]; exact HAb.out D1 _ a (by omega) w' (nextB EE.out.below hb) (S1.out.keep hb))⟩) ?_
                        refine OblS.rowG (by kernel_rfl) 25 (.tmp 5) rfl w.heap.size (by kernel_rfl) 25 _ _ EE.out.tab Tryz.underlying25 rfl (by kernel_rfl) ?_
                        iterate 6 refine OblS.val (by kernel_rfl) (fun w' hb _ => (by have := (EE.out.keep hb).tab.cell; have := (EE.out.keep hb).st.cell; have := (XX.out.after hb).cell; have := ccell hb Q1.out; have := ccell hb Q2.out; go_simp; try first | done | rfl | (intro h; omega))) ?_
                        refine OblS.call 33 (by kernel_rfl) (fun w' hb _ => ⟨#[.agg #[.slice pA pn pc, .slice sA sn sc], .slice (some ⟨D2, 0, none⟩) pn pn, .int .i64 0], (by kernel_rfl), (show Calls Tryz.prog 33 _ w' fun e w2 => e = .returned (.int .i64 y) ∧ Below w'.heap.size w' w2 from by rw [← ay]; exact HAb.out D2 _ 0 (by omega) w' (nextB EE.out.below hb) (S2.out.keep hb))⟩) ?_
                        iterate 2 refine OblS.val (by kernel_rfl) (fun w' hb _ => (by have := (EE.out.keep hb).tab.cell; have := (EE.out.keep hb).st.cell; have := (XX.out.after hb).cell; have := ccell hb Q1.out; have := ccell hb Q2.out; go_simp; try first | done | rfl | (intro h; omega))) ?_
                        apply OblS.nil
                        apply hK
                        intro w8 hb hH
                        clear hH hK K
                        simp only [Act.put, List.setIfInBounds_toArray, List.set_cons_zero, List.set_cons_succ, List.drop_succ_cons, List.drop_zero]
                        replace EE := Lib.hid (EE.out.keep hb); replace XX := Lib.hid (XX.out.after hb); replace cx := XX.out.cell; replace HLt := Lib.hid (HLt.out.keep hb); replace ct := EE.out.tab.cell; replace cm := EE.out.man.cell; replace cs := EE.out.sp.cell; replace co := EE.out.st.cell; clear hb Q1 Q2 S1 S2
                        go_wp2_with (first
                          | (go_at_call 15; refine (knownLaw_c _).mono ?_; rintro e w15 ⟨rfl, hb⟩; have HB := Lib.hid (nextB EE.out.below hb); clear hb))
                        exact bodyPost_ret (results_tmp rfl _ _ _) rfl ⟨rfl, HB.out⟩
                      · have hym : y = -1 := by omega
                        subst hym
                        have hok : okS ps rs H0 a b = true := by rw [okS_iff, iff1.1 rfl, iff2.1 rfl]; rfl
                        rw [hcmp] at hok
                        cases hok
                  · have n1 : ¬ a < 1 := by omega
                    have n2 : ¬ a > 40 := by omega
                    have n3 : ¬ b < 1 := by omega
                    have n4 : b > 30 := by omega
                    go_wp2_with (first
                      | (go_at_call 15; refine (knownLaw_c _).mono ?_; rintro e w15 ⟨rfl, hb⟩; have HB := Lib.hid (nextB EE.out.below hb); clear hb))
                    exact bodyPost_ret (results_tmp rfl _ _ _) rfl ⟨rfl, HB.out⟩
                · have n1 : ¬ a < 1 := by omega
                  have n2 : ¬ a > 40 := by omega
                  have n3 : b < 1 := by omega
                  go_wp2_with (first
                    | (go_at_call 15; refine (knownLaw_c _).mono ?_; rintro e w15 ⟨rfl, hb⟩; have HB := Lib.hid (nextB EE.out.below hb); clear hb))
                  exact bodyPost_ret (results_tmp rfl _ _ _) rfl ⟨rfl, HB.out⟩
              · have n1 : ¬ a < 1 := by omega
                have n2 : a > 40 := by omega
                go_wp2_with (first
                  | (go_at_call 15; refine (knownLaw_c _).mono ?_; rintro e w15 ⟨rfl, hb⟩; have HB := Lib.hid (nextB EE.out.below hb); clear hb))
                exact bodyPost_ret (results_tmp rfl _ _ _) rfl ⟨rfl, HB.out⟩
            · have n1 : a < 1 := by omega
              go_wp2_with (first
                | (go_at_call 15; refine (knownLaw_c _).mono ?_; rintro e w15 ⟨rfl, hb⟩; have HB := Lib.hid (nextB EE.out.below hb); clear hb))
              exact bodyPost_ret (results_tmp rfl _ _ _) rfl ⟨rfl, HB.out⟩
          · rw [hc1, show stE ((sd, sm), 0) = .tuple #[.agg #[.int .i64 sd, .int .i64 sm], .int .i64 0] from rfl] at HCh
            have HCmp := Lib.hid hc4
            have HKa := Lib.hid (HKn.out sd sm d1 d2 e1 e2)
            have ab1 := (HIf.out H0 sd).2 (by rw [okS_iff] at hc3; exact (Bool.and_eq_true _ _ ▸ hc3).1)
            have ab2 := (HIf.out (stayH H0 (stayS sd sd sm)) 0).2 (by rw [okS_iff] at hc3; exact (Bool.and_eq_true _ _ ▸ hc3).2)
            have z1 : ¬ sd < 1 := by omega
            have z2 : ¬ sd > 40 := by omega
            have z3 : ¬ sm < 1 := by omega
            have z4 : ¬ sm > 30 := by omega
            clear hc1 hc3 hc4
            obtain ⟨pA, sA, rA, pn, pc, sn, sc, rn, rc, ps, ss, rs⟩ := t
            simp only [Tm.tab, Tm.man] at *
            go_enter Tryz.func8, Tryz.ntmps8
            go_wp2_with (first
              | (go_at_call 13; refine (HSh.out _).mono ?_; rintro e w13 ⟨rfl, hb⟩; have EE := Lib.hid (E0.out.keep hb); have ct := EE.out.tab.cell; have cm := EE.out.man.cell; have cs := EE.out.sp.cell; have co := EE.out.st.cell; clear hb)
              | (go_at_call 14; refine (HFi.out _ EE.out.below).mono ?_; rintro e w14 ⟨rfl, hb⟩; replace EE := Lib.hid (EE.out.keep hb); replace ct := EE.out.tab.cell; replace cm := EE.out.man.cell; replace cs := EE.out.sp.cell; replace co := EE.out.st.cell; clear hb)
              | (go_at_call 30; refine (HTi.out _).mono ?_; rintro e w30 ⟨rfl, hb⟩; replace EE := Lib.hid (EE.out.keep hb); replace ct := EE.out.tab.cell; replace cm := EE.out.man.cell; replace cs := EE.out.sp.cell; replace co := EE.out.st.cell; clear hb)
              | (go_at_call 31; refine (HCh.out _ EE.out.below).mono ?_; rintro e w31 ⟨rfl, hb⟩; replace EE := Lib.hid (EE.out.keep hb); replace ct := EE.out.tab.cell; replace cm := EE.out.man.cell; replace cs := EE.out.sp.cell; replace co := EE.out.st.cell; clear hb)
              | (refine wpList_store_all rfl 31 _ _ rfl w31.heap.size rfl _ rfl 31 _ (Has.new w31 31 _) (by kernel_rfl) rfl (by simp [Value.oneCell']) ?_; have hb := box_below (W := w31) #[.int .i64 0, .int .i64 0] #[.int .i64 sd, .int .i64 sm] 31; have XX := Lib.hid (box_has (W := w31) #[.int .i64 0, .int .i64 0] #[.int .i64 sd, .int .i64 sm] 31); have cx := XX.out.cell; replace EE := Lib.hid (EE.out.keep hb); replace ct := EE.out.tab.cell; replace cm := EE.out.man.cell; replace cs := EE.out.sp.cell; replace co := EE.out.st.cell; clear hb)
              | (go_at_call 15; refine (knownLaw_c _).mono ?_; rintro e w15 ⟨rfl, hb⟩; have HB := Lib.hid (nextB EE.out.below hb); clear hb))
            apply wp_loose 5 (.v (.slice A n c) :: .v (.agg #[.int .i64 0, .int .i64 0]) :: .v (.agg #[.int .i64 l, .int .i64 g]) :: .r (fun v w' => ∃ g0 cap, v = .slice (some ⟨g0, 0, none⟩) (n + 1) cap ∧ SlOf St.cs 4 w' (some ⟨g0, 0, none⟩) (n + 1) (dive ++ [topS l g])) :: .r (fun v w' => ∃ g0 cap, v = .slice (some ⟨g0, 0, none⟩) (n + 1) cap ∧ SlOf St.cs 4 w' (some ⟨g0, 0, none⟩) (n + 1) (dive ++ [topS l g])) :: []) (by kernel_rfl) (by kernel_rfl) (by kernel_rfl) (by decide) rfl
            intro K hK
            refine OblS.val (by kernel_rfl) (fun w' _ _ => (by kernel_rfl)) ?_
            refine OblS.call 24 (by kernel_rfl) (fun w' hb _ => ⟨_, (by kernel_rfl), just1_c _ w'⟩) ?_
            refine OblS.row rfl 43 (.tmp 8) rfl (w.heap.size + 1 + 1) (by kernel_rfl) 43 _ _ EE.out.sp Tryz.underlying43 rfl (by kernel_rfl) ?_
            refine OblS.callR 23 (by rintro v x y ⟨g0, cap, e, h⟩ hb; exact ⟨g0, cap, e, h.keep hb⟩) (by kernel_rfl) (fun w' hb _ => ⟨#[.slice A n c, .agg #[.int .i64 0, .int .i64 0], .agg #[.int .i64 l, .int .i64 g]], (by kernel_rfl), (HMr.out w' (nextB EE.out.below hb)).mono fun e x ⟨g0, cap, h1, h2, h3⟩ => ⟨_, h1, ⟨g0, cap, rfl, h2⟩, h3⟩⟩) ?_
            intro vm
            refine OblS.run (by rintro v x y ⟨g0, cap, e, h⟩ hb; exact ⟨g0, cap, e, h.keep hb⟩) (by kernel_rfl) (fun w' hb hH => ?_) ?_
            · obtain ⟨g0, cap, e, hsl⟩ := hH _ (List.mem_cons_self ..) (by kernel_rfl)
              exact ⟨vm, w', (by kernel_rfl), ⟨g0, cap, e, hsl⟩, Below.refl _ _⟩
            intro vn
            apply OblS.nil
            apply hK
            intro w5 hb hH
            obtain ⟨g0, cap, rfl, hsl⟩ := hH _ (List.mem_cons_self ..)
            have HLt := Lib.hid hsl
            clear hH hK K hsl
            simp only [Act.put, List.setIfInBounds_toArray, List.set_cons_zero, List.set_cons_succ, List.drop_succ_cons, List.drop_zero]
            replace EE := Lib.hid (EE.out.keep hb); replace XX := Lib.hid (XX.out.after hb); replace cx := XX.out.cell; replace ct := EE.out.tab.cell; replace cm := EE.out.man.cell; replace cs := EE.out.sp.cell; replace co := EE.out.st.cell; clear hb
            go_wp2
            apply wp_loose 11 (.v (.agg #[.slice pA pn pc, .slice sA sn sc]) :: .v (.agg #[.slice rA rn rc]) :: .v (.slice (some ⟨g0, 0, none⟩) (n + 1) cap) :: .v (.agg #[.int .i64 sd, .int .i64 sm]) :: .r (fun v w' => ∃ g1 cap1, v = .slice (some ⟨g1, 0, none⟩) (n + 1 + 1) cap1 ∧ SlOf St.cs 4 w' (some ⟨g1, 0, none⟩) (n + 1 + 1) ((dive ++ [topS l g]) ++ [stayS sd sd sm])) :: .r (fun v w' => ∃ A' c' bs, v = .tuple #[.slice A' (n + 3) c', .int .i64 0] ∧ Lists w' bs (.slice A' (n + 3) c') pn (knownF ⟨pA, sA, rA, pn, pc, sn, sc, rn, rc, ps, ss, rs⟩ ((dive ++ [topS l g]) ++ [stayS sd sd sm]))) :: .r (fun v w' => ∃ A' c' bs, v = .tuple #[.slice A' (n + 3) c', .int .i64 0] ∧ Lists w' bs (.slice A' (n + 3) c') pn (knownF ⟨pA, sA, rA, pn, pc, sn, sc, rn, rc, ps, ss, rs⟩ ((dive ++ [topS l g]) ++ [stayS sd sd sm]))) :: .r (fun v w' => ∃ A' c' bs, v = .slice A' (n + 3) c' ∧ Lists w' bs (.slice A' (n + 3) c') pn (knownF ⟨pA, sA, rA, pn, pc, sn, sc, rn, rc, ps, ss, rs⟩ ((dive ++ [topS l g]) ++ [stayS sd sd sm]))) :: .v (.int .i64 0) :: .r (fun v w' => ∃ A' c' bs, v = .slice A' (n + 3) c' ∧ Lists w' bs (.slice A' (n + 3) c') pn (knownF ⟨pA, sA, rA, pn, pc, sn, sc, rn, rc, ps, ss, rs⟩ ((dive ++ [topS l g]) ++ [stayS sd sd sm]))) :: .v (.int .i64 0) :: []) (by kernel_rfl) (by kernel_rfl) (by kernel_rfl) (by decide) rfl
            intro K hK
            refine OblS.row rfl 25 (.tmp 5) rfl w.heap.size (by kernel_rfl) 25 _ _ EE.out.tab Tryz.underlying25 rfl (by kernel_rfl) ?_
            refine OblS.row rfl 28 (.tmp 6) rfl (w.heap.size + 1) (by kernel_rfl) 28 _ _ EE.out.man Tryz.underlying28 rfl (by kernel_rfl) ?_
            refine OblS.val (by kernel_rfl) (fun w' _ _ => (by kernel_rfl)) ?_
            refine OblS.row rfl 31 (.tmp 11) rfl w31.heap.size (by kernel_rfl) 31 _ _ XX.out Tryz.underlying31 rfl (by kernel_rfl) ?_
            refine OblS.callR 19 (by rintro v x y ⟨g0, cap, e, h⟩ hb; exact ⟨g0, cap, e, h.keep hb⟩) (by kernel_rfl) (fun w' hb _ => ⟨#[.slice (some ⟨g0, 0, none⟩) (n + 1) cap, .agg #[.int .i64 sd, .int .i64 sm]], (by kernel_rfl), (HSp.out _ _ w' g0 cap (HLt.out.keep hb)).mono fun e x ⟨g0, cap, h1, h2, h3⟩ => ⟨_, h1, ⟨g0, cap, rfl, h2⟩, h3⟩⟩) ?_
            intro vs
            refine OblS.callR 32 (by rintro v x y ⟨A', c', bs, e, h⟩ hb; exact ⟨A', c', bs, e, h.keep hb⟩) (by kernel_rfl) (fun w' hb hH => ?_) ?_
            · obtain ⟨g1, cap1, rfl, hsl⟩ := hH _ (List.mem_cons_self ..) (by kernel_rfl)
              exact ⟨#[.agg #[.slice pA pn pc, .slice sA sn sc], .agg #[.slice rA rn rc], .slice (some ⟨g1, 0, none⟩) (n + 1 + 1) cap1], (by kernel_rfl), (HKa.out w' (nextB EE.out.below hb) g1 cap1 hsl).mono fun e x ⟨A', c', h1, h2, h3⟩ => ⟨_, h1, ⟨A', c', _, rfl, h2⟩, h3⟩⟩
            intro vk
            refine OblS.run (by rintro v x y ⟨A', c', bs, e, h⟩ hb; exact ⟨A', c', bs, e, h.keep hb⟩) (by kernel_rfl) (fun w' hb hH => ?_) ?_
            · obtain ⟨A', c', bs, e, h⟩ := hH _ (List.mem_cons_self ..) (by kernel_rfl)
              exact ⟨vk, w', (by kernel_rfl), ⟨A', c', bs, e, h⟩, Below.refl _ _⟩
            intro vl
            refine OblS.run (by rintro v x y ⟨A', c', bs, e, h⟩ hb; exact ⟨A', c', bs, e, h.keep hb⟩) (by kernel_rfl) (fun w' hb hH => ?_) ?_
            · obtain ⟨A', c', bs, rfl, h⟩ := hH _ (List.mem_cons_self ..) (by kernel_rfl)
              exact ⟨.slice A' (n + 3) c', w', (by kernel_rfl), ⟨A', c', bs, rfl, h⟩, Below.refl _ _⟩
            intro vo
            refine OblS.val (by kernel_rfl) (fun w' hb hH => ?_) ?_
            · obtain ⟨A', c', bs, rfl, h⟩ := hH _ (List.mem_cons_of_mem _ (List.mem_cons_self ..)) (by kernel_rfl)
              kernel_rfl
            refine OblS.run (by rintro v x y ⟨A', c', bs, e, h⟩ hb; exact ⟨A', c', bs, e, h.keep hb⟩) (by kernel_rfl) (fun w' hb hH => ?_) ?_
            · obtain ⟨A', c', bs, e, h⟩ := hH _ (List.mem_cons_self ..) (by kernel_rfl)
              exact ⟨vo, w', (by kernel_rfl), ⟨A', c', bs, e, h⟩, Below.refl _ _⟩
            intro vp
            refine OblS.val (by kernel_rfl) (fun w' _ _ => (by kernel_rfl)) ?_
            apply OblS.nil
            apply hK
            intro w6 hb hH
            obtain ⟨A', c', bs, rfl, hls⟩ := hH _ (List.mem_cons_self ..)
            have HKl := Lib.hid hls
            clear hH hK K hls
            simp only [Act.put, List.setIfInBounds_toArray, List.set_cons_zero, List.set_cons_succ, List.drop_succ_cons, List.drop_zero]
            replace EE := Lib.hid (EE.out.keep hb); replace XX := Lib.hid (XX.out.after hb); replace cx := XX.out.cell; replace HLt := Lib.hid (HLt.out.keep hb); replace ct := EE.out.tab.cell; replace cm := EE.out.man.cell; replace cs := EE.out.sp.cell; replace co := EE.out.st.cell; clear hb
            obtain ⟨k0, k1, k2, k3⟩ := HTr.out sd sm d1 d2 e1 e2
            obtain ⟨gq, D1, rfl, hq1, hs1⟩ := HKl.out.at2 k2 k1
            obtain ⟨gr, D2, er, hq2, hs2⟩ := HKl.out.at2 k3 k1
            cases er
            have Q1 := Lib.hid hq1; have Q2 := Lib.hid hq2; have S1 := Lib.hid hs1; have S2 := Lib.hid hs2
            clear hq1 hq2 hs1 hs2 k0 k1 k2 k3
            go_wp2
            apply wp_loose 33 (.v (.int .i64 0) :: .v (.bool false) :: .v (.bool false) :: .v (.slice (some ⟨gq, 0, none⟩) (n + 3) c') :: .v (.int .i64 ((n : Int) + 3)) :: .v (.slice (some ⟨g0, 0, none⟩) (n + 1) cap) :: .v (.int .i64 ((n : Int) + 1)) :: .v (.int .i64 ((n : Int) + 3)) :: .v (.bool false) :: .v (.bool false) :: .v (.bool false) :: .v (.agg #[.slice pA pn pc, .slice sA sn sc]) :: .v (.slice (some ⟨gq, 0, none⟩) (n + 3) c') :: .v (.slice (some ⟨g0, 0, none⟩) (n + 1) cap) :: .v (.int .i64 ((n : Int) + 1)) :: .v (.pointer (some ⟨gq, n + 1, none⟩)) :: .v (.slice (some ⟨D1, 0, none⟩) pn pn) :: .v (.pointer (some ⟨w31.heap.size, 0, none⟩)) :: .v (.int .i64 sd) :: .v (.int .i64 (-1)) :: .v (.bool false) :: .v (.bool false) :: .v (.bool false) :: .v (.agg #[.slice pA pn pc, .slice sA sn sc]) :: .v (.slice (some ⟨gq, 0, none⟩) (n + 3) c') :: .v (.slice (some ⟨g0, 0, none⟩) (n + 1) cap) :: .v (.int .i64 ((n : Int) + 1)) :: .v (.int .i64 ((n : Int) + 2)) :: .v (.pointer (some ⟨gq, n + 2, none⟩)) :: .v (.slice (some ⟨D2, 0, none⟩) pn pn) :: .v (.int .i64 (-1)) :: .v (.bool false) :: .v (.bool false) :: []) (by kernel_rfl) (by kernel_rfl) (by kernel_rfl) (by decide) rfl
            intro K hK
            iterate 11 refine OblS.val (by kernel_rfl) (fun w' hb _ => (by have := (EE.out.keep hb).tab.cell; have := (EE.out.keep hb).st.cell; have := (XX.out.after hb).cell; have := ccell hb Q1.out; have := ccell hb Q2.out; go_simp; try first | done | rfl | (intro h; omega))) ?_
            refine OblS.rowG (by kernel_rfl) 25 (.tmp 5) rfl w.heap.size (by kernel_rfl) 25 _ _ EE.out.tab Tryz.underlying25 rfl (by kernel_rfl) ?_
            iterate 7 refine OblS.val (by kernel_rfl) (fun w' hb _ => (by have := (EE.out.keep hb).tab.cell; have := (EE.out.keep hb).st.cell; have := (XX.out.after hb).cell; have := ccell hb Q1.out; have := ccell hb Q2.out; go_simp; try first | done | rfl | (intro h; omega))) ?_
            refine OblS.call 33 (by kernel_rfl) (fun w' hb _ => ⟨#[.agg #[.slice pA pn pc, .slice sA sn sc], .slice (some ⟨D1, 0, none⟩) pn pn, .int .i64 sd], (by kernel_rfl), (show Calls Tryz.prog 33 _ w' fun e w2 => e = .returned (.int .i64 (-1)) ∧ Below w'.heap.size w' w2 from by rw [← ab1]; exact HAb.out D1 _ sd (by omega) w' (nextB EE.out.below hb) (S1.out.keep hb))⟩) ?_
            iterate 3 refine OblS.val (by kernel_rfl) (fun w' hb _ => (by have := (EE.out.keep hb).tab.cell; have := (EE.out.keep hb).st.cell; have := (XX.out.after hb).cell; have := ccell hb Q1.out; have := ccell hb Q2.out; go_simp; try first | done | rfl | (intro h; omega))) ?_
            refine OblS.rowG (by kernel_rfl) 25 (.tmp 5) rfl w.heap.size (by kernel_rfl) 25 _ _ EE.out.tab Tryz.underlying25 rfl (by kernel_rfl) ?_
            iterate 6 refine OblS.val (by kernel_rfl) (fun w' hb _ => (by have := (EE.out.keep hb).tab.cell; have := (EE.out.keep hb).st.cell; have := (XX.out.after hb).cell; have := ccell hb Q1.out; have := ccell hb Q2.out; go_simp; try first | done | rfl | (intro h; omega))) ?_
            refine OblS.call 33 (by kernel_rfl) (fun w' hb _ => ⟨#[.agg #[.slice pA pn pc, .slice sA sn sc], .slice (some ⟨D2, 0, none⟩) pn pn, .int .i64 0], (by kernel_rfl), (show Calls Tryz.prog 33 _ w' fun e w2 => e = .returned (.int .i64 (-1)) ∧ Below w'.heap.size w' w2 from by rw [← ab2]; exact HAb.out D2 _ 0 (by omega) w' (nextB EE.out.below hb) (S2.out.keep hb))⟩) ?_
            iterate 2 refine OblS.val (by kernel_rfl) (fun w' hb _ => (by have := (EE.out.keep hb).tab.cell; have := (EE.out.keep hb).st.cell; have := (XX.out.after hb).cell; have := ccell hb Q1.out; have := ccell hb Q2.out; go_simp; try first | done | rfl | (intro h; omega))) ?_
            apply OblS.nil
            apply hK
            intro w7 hb hH
            clear hH hK K
            simp only [Act.put, List.setIfInBounds_toArray, List.set_cons_zero, List.set_cons_succ, List.drop_succ_cons, List.drop_zero]
            replace EE := Lib.hid (EE.out.keep hb); replace XX := Lib.hid (XX.out.after hb); replace cx := XX.out.cell; replace HLt := Lib.hid (HLt.out.keep hb); replace ct := EE.out.tab.cell; replace cm := EE.out.man.cell; replace cs := EE.out.sp.cell; replace co := EE.out.st.cell; clear hb Q1 Q2 S1 S2
            by_cases a1 : 1 ≤ a
            · by_cases a2 : a ≤ 40
              · by_cases b1 : 1 ≤ b
                · by_cases b2 : b ≤ 30
                  · have n1 : ¬ a < 1 := by omega
                    have n2 : ¬ a > 40 := by omega
                    have n3 : ¬ b < 1 := by omega
                    have n4 : ¬ b > 30 := by omega
                    have HKb := Lib.hid (HKn.out a b (by omega) (by omega) (by omega) (by omega))
                    have hcmp := HCmp.out a b (by omega) (by omega) (by omega) (by omega)
                    go_wp2_with (first
                      | (go_at_call 15; refine (knownLaw_c _).mono ?_; rintro e w15 ⟨rfl, hb⟩; have HB := Lib.hid (nextB EE.out.below hb); clear hb))
                    apply wp_loose 11 (.v (.agg #[.slice pA pn pc, .slice sA sn sc]) :: .v (.agg #[.slice rA rn rc]) :: .v (.slice (some ⟨g0, 0, none⟩) (n + 1) cap) :: .v (.agg #[.int .i64 a, .int .i64 b]) :: .r (fun v w' => ∃ g1 cap1, v = .slice (some ⟨g1, 0, none⟩) (n + 1 + 1) cap1 ∧ SlOf St.cs 4 w' (some ⟨g1, 0, none⟩) (n + 1 + 1) ((dive ++ [topS l g]) ++ [stayS a a b])) :: .r (fun v w' => ∃ A' c' bs, v = .tuple #[.slice A' (n + 3) c', .int .i64 0] ∧ Lists w' bs (.slice A' (n + 3) c') pn (knownF ⟨pA, sA, rA, pn, pc, sn, sc, rn, rc, ps, ss, rs⟩ ((dive ++ [topS l g]) ++ [stayS a a b]))) :: .r (fun v w' => ∃ A' c' bs, v = .tuple #[.slice A' (n + 3) c', .int .i64 0] ∧ Lists w' bs (.slice A' (n + 3) c') pn (knownF ⟨pA, sA, rA, pn, pc, sn, sc, rn, rc, ps, ss, rs⟩ ((dive ++ [topS l g]) ++ [stayS a a b]))) :: .r (fun v w' => ∃ A' c' bs, v = .slice A' (n + 3) c' ∧ Lists w' bs (.slice A' (n + 3) c') pn (knownF ⟨pA, sA, rA, pn, pc, sn, sc, rn, rc, ps, ss, rs⟩ ((dive ++ [topS l g]) ++ [stayS a a b]))) :: .v (.int .i64 0) :: .r (fun v w' => ∃ A' c' bs, v = .slice A' (n + 3) c' ∧ Lists w' bs (.slice A' (n + 3) c') pn (knownF ⟨pA, sA, rA, pn, pc, sn, sc, rn, rc, ps, ss, rs⟩ ((dive ++ [topS l g]) ++ [stayS a a b]))) :: .v (.int .i64 0) :: []) (by kernel_rfl) (by kernel_rfl) (by kernel_rfl) (by decide) rfl
                    intro K hK
                    refine OblS.row rfl 25 (.tmp 5) rfl w.heap.size (by kernel_rfl) 25 _ _ EE.out.tab Tryz.underlying25 rfl (by kernel_rfl) ?_
                    refine OblS.row rfl 28 (.tmp 6) rfl (w.heap.size + 1) (by kernel_rfl) 28 _ _ EE.out.man Tryz.underlying28 rfl (by kernel_rfl) ?_
                    refine OblS.val (by kernel_rfl) (fun w' _ _ => (by kernel_rfl)) ?_
                    refine OblS.row rfl 31 (.tmp 9) rfl (w.heap.size + 1 + 1 + 1) (by kernel_rfl) 31 _ _ EE.out.st Tryz.underlying31 rfl (by kernel_rfl) ?_
                    refine OblS.callR 19 (by rintro v x y ⟨g0, cap, e, h⟩ hb; exact ⟨g0, cap, e, h.keep hb⟩) (by kernel_rfl) (fun w' hb _ => ⟨#[.slice (some ⟨g0, 0, none⟩) (n + 1) cap, .agg #[.int .i64 a, .int .i64 b]], (by kernel_rfl), (HSp.out _ _ w' g0 cap (HLt.out.keep hb)).mono fun e x ⟨g0, cap, h1, h2, h3⟩ => ⟨_, h1, ⟨g0, cap, rfl, h2⟩, h3⟩⟩) ?_
                    intro vs
                    refine OblS.callR 32 (by rintro v x y ⟨A', c', bs, e, h⟩ hb; exact ⟨A', c', bs, e, h.keep hb⟩) (by kernel_rfl) (fun w' hb hH => ?_) ?_
                    · obtain ⟨g1, cap1, rfl, hsl⟩ := hH _ (List.mem_cons_self ..) (by kernel_rfl)
                      exact ⟨#[.agg #[.slice pA pn pc, .slice sA sn sc], .agg #[.slice rA rn rc], .slice (some ⟨g1, 0, none⟩) (n + 1 + 1) cap1], (by kernel_rfl), (HKb.out w' (nextB EE.out.below hb) g1 cap1 hsl).mono fun e x ⟨A', c', h1, h2, h3⟩ => ⟨_, h1, ⟨A', c', _, rfl, h2⟩, h3⟩⟩
                    intro vk
                    refine OblS.run (by rintro v x y ⟨A', c', bs, e, h⟩ hb; exact ⟨A', c', bs, e, h.keep hb⟩) (by kernel_rfl) (fun w' hb hH => ?_) ?_
                    · obtain ⟨A', c', bs, e, h⟩ := hH _ (List.mem_cons_self ..) (by kernel_rfl)
                      exact ⟨vk, w', (by kernel_rfl), ⟨A', c', bs, e, h⟩, Below.refl _ _⟩
                    intro vl
                    refine OblS.run (by rintro v x y ⟨A', c', bs, e, h⟩ hb; exact ⟨A', c', bs, e, h.keep hb⟩) (by kernel_rfl) (fun w' hb hH => ?_) ?_
                    · obtain ⟨A', c', bs, rfl, h⟩ := hH _ (List.mem_cons_self ..) (by kernel_rfl)
                      exact ⟨.slice A' (n + 3) c', w', (by kernel_rfl), ⟨A', c', bs, rfl, h⟩, Below.refl _ _⟩
                    intro vo
                    refine OblS.val (by kernel_rfl) (fun w' hb hH => ?_) ?_
                    · obtain ⟨A', c', bs, rfl, h⟩ := hH _ (List.mem_cons_of_mem _ (List.mem_cons_self ..)) (by kernel_rfl)
                      kernel_rfl
                    refine OblS.run (by rintro v x y ⟨A', c', bs, e, h⟩ hb; exact ⟨A', c', bs, e, h.keep hb⟩) (by kernel_rfl) (fun w' hb hH => ?_) ?_
                    · obtain ⟨A', c', bs, e, h⟩ := hH _ (List.mem_cons_self ..) (by kernel_rfl)
                      exact ⟨vo, w', (by kernel_rfl), ⟨A', c', bs, e, h⟩, Below.refl _ _⟩
                    intro vp
                    refine OblS.val (by kernel_rfl) (fun w' _ _ => (by kernel_rfl)) ?_
                    apply OblS.nil
                    apply hK
                    intro w6 hb hH
                    obtain ⟨A', c', bs, rfl, hls⟩ := hH _ (List.mem_cons_self ..)
                    have HKl := Lib.hid hls
                    clear hH hK K hls
                    simp only [Act.put, List.setIfInBounds_toArray, List.set_cons_zero, List.set_cons_succ, List.drop_succ_cons, List.drop_zero]
                    replace EE := Lib.hid (EE.out.keep hb); replace XX := Lib.hid (XX.out.after hb); replace cx := XX.out.cell; replace HLt := Lib.hid (HLt.out.keep hb); replace ct := EE.out.tab.cell; replace cm := EE.out.man.cell; replace cs := EE.out.sp.cell; replace co := EE.out.st.cell; clear hb
                    obtain ⟨k0, k1, k2, k3⟩ := HTr.out a b (by omega) (by omega) (by omega) (by omega)
                    obtain ⟨gq, D1, rfl, hq1, hs1⟩ := HKl.out.at2 k2 k1
                    obtain ⟨gr, D2, er, hq2, hs2⟩ := HKl.out.at2 k3 k1
                    cases er
                    have Q1 := Lib.hid hq1; have Q2 := Lib.hid hq2; have S1 := Lib.hid hs1; have S2 := Lib.hid hs2
                    clear hq1 hq2 hs1 hs2 k0 k1 k2 k3
                    go_wp2
                    have iff1 := HIf.out H0 a
                    have iff2 := HIf.out (stayH H0 (stayS a a b)) 0
                    have ge1 := abvF_ge ps (spansOf rs H0 pn) a pn
                    have ge2 := abvF_ge ps (spansOf rs (stayH H0 (stayS a a b)) pn) 0 pn
                    generalize hx : abvF ps (spansOf rs H0 pn) a pn = x at *
                    generalize hy : abvF ps (spansOf rs (stayH H0 (stayS a a b)) pn) 0 pn = y at *
                    have ax := hx
                    have ay := hy
                    by_cases hx0 : 0 ≤ x
                    · have hx1 : ¬ x = -2 := by omega
                      by_cases hy0 : y = -2
                      · omega
                      · have hy2 : (y == -2) = false := by simpa using hy0
                        clear hcmp iff1 iff2 ge1 ge2 hx hy
                        apply wp_loose 19 (.v (.agg #[.slice pA pn pc, .slice sA sn sc]) :: .v (.slice (some ⟨gq, 0, none⟩) (n + 3) c') :: .v (.slice (some ⟨g0, 0, none⟩) (n + 1) cap) :: .v (.int .i64 ((n : Int) + 1)) :: .v (.pointer (some ⟨gq, n + 1, none⟩)) :: .v (.slice (some ⟨D1, 0, none⟩) pn pn) :: .v (.pointer (some ⟨w.heap.size + 1 + 1 + 1, 0, none⟩)) :: .v (.int .i64 a) :: .v (.int .i64 x) :: .v (.agg #[.slice pA pn pc, .slice sA sn sc]) :: .v (.slice (some ⟨gq, 0, none⟩) (n + 3) c') :: .v (.slice (some ⟨g0, 0, none⟩) (n + 1) cap) :: .v (.int .i64 ((n : Int) + 1)) :: .v (.int .i64 ((n : Int) + 2)) :: .v (.pointer (some ⟨gq, n + 2, none⟩)) :: .v (.slice (some ⟨D2, 0, none⟩) pn pn) :: .v (.int .i64 y) :: .v (.int .i64 x) :: .v (.int .i64 y) :: []) (by kernel_rfl) (by kernel_rfl) (by kernel_rfl) (by decide) rfl
                        intro K hK
                        refine OblS.rowG (by kernel_rfl) 25 (.tmp 5) rfl w.heap.size (by kernel_rfl) 25 _ _ EE.out.tab Tryz.underlying25 rfl (by kernel_rfl) ?_
                        iterate 7 refine OblS.val (by kernel_rfl) (fun w' hb _ => (by have := (EE.out.keep hb).tab.cell; have := (EE.out.keep hb).st.cell; have := (XX.out.after hb).cell; have := ccell hb Q1.out; have := ccell hb Q2.out; go_simp; try first | done | rfl | (intro h; omega))) ?_
                        refine OblS.call 33 (by kernel_rfl) (fun w' hb _ => ⟨#[.agg #[.slice pA pn pc, .slice sA sn sc], .slice (some ⟨D1, 0, none⟩) pn pn, .int .i64 a], (by kernel_rfl), (show Calls Tryz.prog 33 _ w' fun e w2 => e = .returned (.int .i64 x) ∧ Below w'.heap.size w' w2 from by rw [← ax]; exact HAb.out D1 _ a (by omega) w' (nextB EE.out.below hb) (S1.out.keep hb))⟩) ?_
                        refine OblS.rowG (by kernel_rfl) 25 (.tmp 5) rfl w.heap.size (by kernel_rfl) 25 _ _ EE.out.tab Tryz.underlying25 rfl (by kernel_rfl) ?_
                        iterate 6 refine OblS.val (by kernel_rfl) (fun w' hb _ => (by have := (EE.out.keep hb).tab.cell; have := (EE.out.keep hb).st.cell; have := (XX.out.after hb).cell; have := ccell hb Q1.out; have := ccell hb Q2.out; go_simp; try first | done | rfl | (intro h; omega))) ?_
                        refine OblS.call 33 (by kernel_rfl) (fun w' hb _ => ⟨#[.agg #[.slice pA pn pc, .slice sA sn sc], .slice (some ⟨D2, 0, none⟩) pn pn, .int .i64 0], (by kernel_rfl), (show Calls Tryz.prog 33 _ w' fun e w2 => e = .returned (.int .i64 y) ∧ Below w'.heap.size w' w2 from by rw [← ay]; exact HAb.out D2 _ 0 (by omega) w' (nextB EE.out.below hb) (S2.out.keep hb))⟩) ?_
                        iterate 2 refine OblS.val (by kernel_rfl) (fun w' hb _ => (by have := (EE.out.keep hb).tab.cell; have := (EE.out.keep hb).st.cell; have := (XX.out.after hb).cell; have := ccell hb Q1.out; have := ccell hb Q2.out; go_simp; try first | done | rfl | (intro h; omega))) ?_
                        apply OblS.nil
                        apply hK
                        intro w8 hb hH
                        clear hH hK K
                        simp only [Act.put, List.setIfInBounds_toArray, List.set_cons_zero, List.set_cons_succ, List.drop_succ_cons, List.drop_zero]
                        replace EE := Lib.hid (EE.out.keep hb); replace XX := Lib.hid (XX.out.after hb); replace cx := XX.out.cell; replace HLt := Lib.hid (HLt.out.keep hb); replace ct := EE.out.tab.cell; replace cm := EE.out.man.cell; replace cs := EE.out.sp.cell; replace co := EE.out.st.cell; clear hb Q1 Q2 S1 S2
                        go_wp2_with (first
                          | (go_at_call 15; refine (knownLaw_c _).mono ?_; rintro e w15 ⟨rfl, hb⟩; have HB := Lib.hid (nextB EE.out.below hb); clear hb))
                        exact bodyPost_ret (results_tmp rfl _ _ _) rfl ⟨rfl, HB.out⟩
                    · have hxm : x = -1 := by omega
                      subst hxm
                      by_cases hy0 : 0 ≤ y
                      · have hy1 : ¬ y = -2 := by omega
                        have hy2 : (y == -2) = false := by simpa using hy1
                        clear hcmp iff1 iff2 ge1 ge2 hx hy
                        apply wp_loose 19 (.v (.agg #[.slice pA pn pc, .slice sA sn sc]) :: .v (.slice (some ⟨gq, 0, none⟩) (n + 3) c') :: .v (.slice (some ⟨g0, 0, none⟩) (n + 1) cap) :: .v (.int .i64 ((n : Int) + 1)) :: .v (.pointer (some ⟨gq, n + 1, none⟩)) :: .v (.slice (some ⟨D1, 0, none⟩) pn pn) :: .v (.pointer (some ⟨w.heap.size + 1 + 1 + 1, 0, none⟩)) :: .v (.int .i64 a) :: .v (.int .i64 (-1)) :: .v (.agg #[.slice pA pn pc, .slice sA sn sc]) :: .v (.slice (some ⟨gq, 0, none⟩) (n + 3) c') :: .v (.slice (some ⟨g0, 0, none⟩) (n + 1) cap) :: .v (.int .i64 ((n : Int) + 1)) :: .v (.int .i64 ((n : Int) + 2)) :: .v (.pointer (some ⟨gq, n + 2, none⟩)) :: .v (.slice (some ⟨D2, 0, none⟩) pn pn) :: .v (.int .i64 y) :: .v (.int .i64 (-1)) :: .v (.int .i64 y) :: []) (by kernel_rfl) (by kernel_rfl) (by kernel_rfl) (by decide) rfl
                        intro K hK
                        refine OblS.rowG (by kernel_rfl) 25 (.tmp 5) rfl w.heap.size (by kernel_rfl) 25 _ _ EE.out.tab Tryz.underlying25 rfl (by kernel_rfl) ?_
                        iterate 7 refine OblS.val (by kernel_rfl) (fun w' hb _ => (by have := (EE.out.keep hb).tab.cell; have := (EE.out.keep hb).st.cell; have := (XX.out.after hb).cell; have := ccell hb Q1.out; have := ccell hb Q2.out; go_simp; try first | done | rfl | (intro h; omega))) ?_
                        refine OblS.call 33 (by kernel_rfl) (fun w' hb _ => ⟨#[.agg #[.slice pA pn pc, .slice sA sn sc], .slice (some ⟨D1, 0, none⟩) pn pn, .int .i64 a], (by kernel_rfl), (show Calls Tryz.prog 33 _ w' fun e w2 => e = .returned (.int .i64 (-1)) ∧ Below w'.heap.size w' w2 from by rw [← ax]; exact HAb.out D1 _ a (by omega) w' (nextB EE.out.below hb) (S1.out.keep hb))⟩) ?_
                        refine OblS.rowG (by kernel_rfl) 25 (.tmp 5) rfl w.heap.size (by kernel_rfl) 25 _ _ EE.out.tab Tryz.underlying25 rfl (by kernel_rfl) ?_
                        iterate 6 refine OblS.val (by kernel_rfl) (fun w' hb _ => (by have := (EE.out.keep hb).tab.cell; have := (EE.out.keep hb).st.cell; have := (XX.out.after hb).cell; have := ccell hb Q1.out; have := ccell hb Q2.out; go_simp; try first | done | rfl | (intro h; omega))) ?_
                        refine OblS.call 33 (by kernel_rfl) (fun w' hb _ => ⟨#[.agg #[.slice pA pn pc, .slice sA sn sc], .slice (some ⟨D2, 0, none⟩) pn pn, .int .i64 0], (by kernel_rfl), (show Calls Tryz.prog 33 _ w' fun e w2 => e = .returned (.int .i64 y) ∧ Below w'.heap.size w' w2 from by rw [← ay]; exact HAb.out D2 _ 0 (by omega) w' (nextB EE.out.below hb) (S2.out.keep hb))⟩) ?_
                        iterate 2 refine OblS.val (by kernel_rfl) (fun w' hb _ => (by have := (EE.out.keep hb).tab.cell; have := (EE.out.keep hb).st.cell; have := (XX.out.after hb).cell; have := ccell hb Q1.out; have := ccell hb Q2.out; go_simp; try first | done | rfl | (intro h; omega))) ?_
                        apply OblS.nil
                        apply hK
                        intro w8 hb hH
                        clear hH hK K
                        simp only [Act.put, List.setIfInBounds_toArray, List.set_cons_zero, List.set_cons_succ, List.drop_succ_cons, List.drop_zero]
                        replace EE := Lib.hid (EE.out.keep hb); replace XX := Lib.hid (XX.out.after hb); replace cx := XX.out.cell; replace HLt := Lib.hid (HLt.out.keep hb); replace ct := EE.out.tab.cell; replace cm := EE.out.man.cell; replace cs := EE.out.sp.cell; replace co := EE.out.st.cell; clear hb Q1 Q2 S1 S2
                        go_wp2_with (first
                          | (go_at_call 15; refine (knownLaw_c _).mono ?_; rintro e w15 ⟨rfl, hb⟩; have HB := Lib.hid (nextB EE.out.below hb); clear hb))
                        exact bodyPost_ret (results_tmp rfl _ _ _) rfl ⟨rfl, HB.out⟩
                      · have hym : y = -1 := by omega
                        subst hym
                        have hok : okS ps rs H0 a b = true := by rw [okS_iff, iff1.1 rfl, iff2.1 rfl]; rfl
                        clear hx hy iff1 iff2 ge1 ge2
                        rcases hcmp hok with hlt | ⟨heq, hle⟩
                        · clear hok
                          apply wp_loose 19 (.v (.agg #[.slice pA pn pc, .slice sA sn sc]) :: .v (.slice (some ⟨gq, 0, none⟩) (n + 3) c') :: .v (.slice (some ⟨g0, 0, none⟩) (n + 1) cap) :: .v (.int .i64 ((n : Int) + 1)) :: .v (.pointer (some ⟨gq, n + 1, none⟩)) :: .v (.slice (some ⟨D1, 0, none⟩) pn pn) :: .v (.pointer (some ⟨w.heap.size + 1 + 1 + 1, 0, none⟩)) :: .v (.int .i64 a) :: .v (.int .i64 (-1)) :: .v (.agg #[.slice pA pn pc, .slice sA sn sc]) :: .v (.slice (some ⟨gq, 0, none⟩) (n + 3) c') :: .v (.slice (some ⟨g0, 0, none⟩) (n + 1) cap) :: .v (.int .i64 ((n : Int) + 1)) :: .v (.int .i64 ((n : Int) + 2)) :: .v (.pointer (some ⟨gq, n + 2, none⟩)) :: .v (.slice (some ⟨D2, 0, none⟩) pn pn) :: .v (.int .i64 (-1)) :: .v (.int .i64 (-1)) :: .v (.int .i64 (-1)) :: []) (by kernel_rfl) (by kernel_rfl) (by kernel_rfl) (by decide) rfl
                          intro K hK
                          refine OblS.rowG (by kernel_rfl) 25 (.tmp 5) rfl w.heap.size (by kernel_rfl) 25 _ _ EE.out.tab Tryz.underlying25 rfl (by kernel_rfl) ?_
                          iterate 7 refine OblS.val (by kernel_rfl) (fun w' hb _ => (by have := (EE.out.keep hb).tab.cell; have := (EE.out.keep hb).st.cell; have := (XX.out.after hb).cell; have := ccell hb Q1.out; have := ccell hb Q2.out; go_simp; try first | done | rfl | (intro h; omega))) ?_
                          refine OblS.call 33 (by kernel_rfl) (fun w' hb _ => ⟨#[.agg #[.slice pA pn pc, .slice sA sn sc], .slice (some ⟨D1, 0, none⟩) pn pn, .int .i64 a], (by kernel_rfl), (show Calls Tryz.prog 33 _ w' fun e w2 => e = .returned (.int .i64 (-1)) ∧ Below w'.heap.size w' w2 from by rw [← ax]; exact HAb.out D1 _ a (by omega) w' (nextB EE.out.below hb) (S1.out.keep hb))⟩) ?_
                          refine OblS.rowG (by kernel_rfl) 25 (.tmp 5) rfl w.heap.size (by kernel_rfl) 25 _ _ EE.out.tab Tryz.underlying25 rfl (by kernel_rfl) ?_
                          iterate 6 refine OblS.val (by kernel_rfl) (fun w' hb _ => (by have := (EE.out.keep hb).tab.cell; have := (EE.out.keep hb).st.cell; have := (XX.out.after hb).cell; have := ccell hb Q1.out; have := ccell hb Q2.out; go_simp; try first | done | rfl | (intro h; omega))) ?_
                          refine OblS.call 33 (by kernel_rfl) (fun w' hb _ => ⟨#[.agg #[.slice pA pn pc, .slice sA sn sc], .slice (some ⟨D2, 0, none⟩) pn pn, .int .i64 0], (by kernel_rfl), (show Calls Tryz.prog 33 _ w' fun e w2 => e = .returned (.int .i64 (-1)) ∧ Below w'.heap.size w' w2 from by rw [← ay]; exact HAb.out D2 _ 0 (by omega) w' (nextB EE.out.below hb) (S2.out.keep hb))⟩) ?_
                          iterate 2 refine OblS.val (by kernel_rfl) (fun w' hb _ => (by have := (EE.out.keep hb).tab.cell; have := (EE.out.keep hb).st.cell; have := (XX.out.after hb).cell; have := ccell hb Q1.out; have := ccell hb Q2.out; go_simp; try first | done | rfl | (intro h; omega))) ?_
                          apply OblS.nil
                          apply hK
                          intro w8 hb hH
                          clear hH hK K
                          simp only [Act.put, List.setIfInBounds_toArray, List.set_cons_zero, List.set_cons_succ, List.drop_succ_cons, List.drop_zero]
                          replace EE := Lib.hid (EE.out.keep hb); replace XX := Lib.hid (XX.out.after hb); replace cx := XX.out.cell; replace HLt := Lib.hid (HLt.out.keep hb); replace ct := EE.out.tab.cell; replace cm := EE.out.man.cell; replace cs := EE.out.sp.cell; replace co := EE.out.st.cell; clear hb Q1 Q2 S1 S2
                          go_wp2_with (first
                            | (go_at_call 15; refine (knownLaw_c _).mono ?_; rintro e w15 ⟨rfl, hb⟩; have HB := Lib.hid (nextB EE.out.below hb); clear hb))
                          exact bodyPost_ret (results_tmp rfl _ _ _) rfl ⟨rfl, HB.out⟩
                        · clear hok
                          subst heq
                          apply wp_loose 19 (.v (.agg #[.slice pA pn pc, .slice sA sn sc]) :: .v (.slice (some ⟨gq, 0, none⟩) (n + 3) c') :: .v (.slice (some ⟨g0, 0, none⟩) (n + 1) cap) :: .v (.int .i64 ((n : Int) + 1)) :: .v (.pointer (some ⟨gq, n + 1, none⟩)) :: .v (.slice (some ⟨D1, 0, none⟩) pn pn) :: .v (.pointer (some ⟨w.heap.size + 1 + 1 + 1, 0, none⟩)) :: .v (.int .i64 sd) :: .v (.int .i64 (-1)) :: .v (.agg #[.slice pA pn pc, .slice sA sn sc]) :: .v (.slice (some ⟨gq, 0, none⟩) (n + 3) c') :: .v (.slice (some ⟨g0, 0, none⟩) (n + 1) cap) :: .v (.int .i64 ((n : Int) + 1)) :: .v (.int .i64 ((n : Int) + 2)) :: .v (.pointer (some ⟨gq, n + 2, none⟩)) :: .v (.slice (some ⟨D2, 0, none⟩) pn pn) :: .v (.int .i64 (-1)) :: .v (.int .i64 (-1)) :: .v (.int .i64 (-1)) :: []) (by kernel_rfl) (by kernel_rfl) (by kernel_rfl) (by decide) rfl
                          intro K hK
                          refine OblS.rowG (by kernel_rfl) 25 (.tmp 5) rfl w.heap.size (by kernel_rfl) 25 _ _ EE.out.tab Tryz.underlying25 rfl (by kernel_rfl) ?_
                          iterate 7 refine OblS.val (by kernel_rfl) (fun w' hb _ => (by have := (EE.out.keep hb).tab.cell; have := (EE.out.keep hb).st.cell; have := (XX.out.after hb).cell; have := ccell hb Q1.out; have := ccell hb Q2.out; go_simp; try first | done | rfl | (intro h; omega))) ?_
                          refine OblS.call 33 (by kernel_rfl) (fun w' hb _ => ⟨#[.agg #[.slice pA pn pc, .slice sA sn sc], .slice (some ⟨D1, 0, none⟩) pn pn, .int .i64 sd], (by kernel_rfl), (show Calls Tryz.prog 33 _ w' fun e w2 => e = .returned (.int .i64 (-1)) ∧ Below w'.heap.size w' w2 from by rw [← ax]; exact HAb.out D1 _ sd (by omega) w' (nextB EE.out.below hb) (S1.out.keep hb))⟩) ?_
                          refine OblS.rowG (by kernel_rfl) 25 (.tmp 5) rfl w.heap.size (by kernel_rfl) 25 _ _ EE.out.tab Tryz.underlying25 rfl (by kernel_rfl) ?_
                          iterate 6 refine OblS.val (by kernel_rfl) (fun w' hb _ => (by have := (EE.out.keep hb).tab.cell; have := (EE.out.keep hb).st.cell; have := (XX.out.after hb).cell; have := ccell hb Q1.out; have := ccell hb Q2.out; go_simp; try first | done | rfl | (intro h; omega))) ?_
                          refine OblS.call 33 (by kernel_rfl) (fun w' hb _ => ⟨#[.agg #[.slice pA pn pc, .slice sA sn sc], .slice (some ⟨D2, 0, none⟩) pn pn, .int .i64 0], (by kernel_rfl), (show Calls Tryz.prog 33 _ w' fun e w2 => e = .returned (.int .i64 (-1)) ∧ Below w'.heap.size w' w2 from by rw [← ay]; exact HAb.out D2 _ 0 (by omega) w' (nextB EE.out.below hb) (S2.out.keep hb))⟩) ?_
                          iterate 2 refine OblS.val (by kernel_rfl) (fun w' hb _ => (by have := (EE.out.keep hb).tab.cell; have := (EE.out.keep hb).st.cell; have := (XX.out.after hb).cell; have := ccell hb Q1.out; have := ccell hb Q2.out; go_simp; try first | done | rfl | (intro h; omega))) ?_
                          apply OblS.nil
                          apply hK
                          intro w8 hb hH
                          clear hH hK K
                          simp only [Act.put, List.setIfInBounds_toArray, List.set_cons_zero, List.set_cons_succ, List.drop_succ_cons, List.drop_zero]
                          replace EE := Lib.hid (EE.out.keep hb); replace XX := Lib.hid (XX.out.after hb); replace cx := XX.out.cell; replace HLt := Lib.hid (HLt.out.keep hb); replace ct := EE.out.tab.cell; replace cm := EE.out.man.cell; replace cs := EE.out.sp.cell; replace co := EE.out.st.cell; clear hb Q1 Q2 S1 S2
                          go_wp2_with (first
                            | (go_at_call 15; refine (knownLaw_c _).mono ?_; rintro e w15 ⟨rfl, hb⟩; have HB := Lib.hid (nextB EE.out.below hb); clear hb))
                          exact bodyPost_ret (results_tmp rfl _ _ _) rfl ⟨rfl, HB.out⟩
                  · have n1 : ¬ a < 1 := by omega
                    have n2 : ¬ a > 40 := by omega
                    have n3 : ¬ b < 1 := by omega
                    have n4 : b > 30 := by omega
                    go_wp2_with (first
                      | (go_at_call 15; refine (knownLaw_c _).mono ?_; rintro e w15 ⟨rfl, hb⟩; have HB := Lib.hid (nextB EE.out.below hb); clear hb))
                    exact bodyPost_ret (results_tmp rfl _ _ _) rfl ⟨rfl, HB.out⟩
                · have n1 : ¬ a < 1 := by omega
                  have n2 : ¬ a > 40 := by omega
                  have n3 : b < 1 := by omega
                  go_wp2_with (first
                    | (go_at_call 15; refine (knownLaw_c _).mono ?_; rintro e w15 ⟨rfl, hb⟩; have HB := Lib.hid (nextB EE.out.below hb); clear hb))
                  exact bodyPost_ret (results_tmp rfl _ _ _) rfl ⟨rfl, HB.out⟩
              · have n1 : ¬ a < 1 := by omega
                have n2 : a > 40 := by omega
                go_wp2_with (first
                  | (go_at_call 15; refine (knownLaw_c _).mono ?_; rintro e w15 ⟨rfl, hb⟩; have HB := Lib.hid (nextB EE.out.below hb); clear hb))
                exact bodyPost_ret (results_tmp rfl _ _ _) rfl ⟨rfl, HB.out⟩
            · have n1 : a < 1 := by omega
              go_wp2_with (first
                | (go_at_call 15; refine (knownLaw_c _).mono ?_; rintro e w15 ⟨rfl, hb⟩; have HB := Lib.hid (nextB EE.out.below hb); clear hb))
              exact bodyPost_ret (results_tmp rfl _ _ _) rfl ⟨rfl, HB.out⟩
        · have hn4b : 4 ≤ n + 1 := by omega
          have hn4c : (4 : Int) ≤ (n : Int) + 1 := by omega
          have hn4d : 3 ≤ n := by omega
          clear hs hi hd hA hsm hdb ho
          obtain ⟨pA, sA, rA, pn, pc, sn, sc, rn, rc, ps, ss, rs⟩ := t
          simp only [Tm.tab, Tm.man] at *
          go_enter Tryz.func8, Tryz.ntmps8
          go_wp2_with (first
            | (go_at_call 13; refine (HSh.out _).mono ?_; rintro e w13 ⟨rfl, hb⟩; have EE := Lib.hid (E0.out.keep hb); have ct := EE.out.tab.cell; have cm := EE.out.man.cell; have cs := EE.out.sp.cell; have co := EE.out.st.cell; clear hb)
            | (go_at_call 14; refine (HFi.out _ EE.out.below).mono ?_; rintro e w14 ⟨rfl, hb⟩; replace EE := Lib.hid (EE.out.keep hb); replace ct := EE.out.tab.cell; replace cm := EE.out.man.cell; replace cs := EE.out.sp.cell; replace co := EE.out.st.cell; clear hb)
            | (go_at_call 30; refine (HTi.out _).mono ?_; rintro e w30 ⟨rfl, hb⟩; replace EE := Lib.hid (EE.out.keep hb); replace ct := EE.out.tab.cell; replace cm := EE.out.man.cell; replace cs := EE.out.sp.cell; replace co := EE.out.st.cell; clear hb)
            | (go_at_call 15; refine (knownLaw_c _).mono ?_; rintro e w15 ⟨rfl, hb⟩; have HB := Lib.hid (nextB EE.out.below hb); clear hb))
          exact bodyPost_ret (results_tmp rfl _ _ _) rfl ⟨rfl, HB.out⟩
end Go.Proofs
namespace Go.Proofs.YtahochgbkhpefabGreatDoor.gasTreated
open Go.ChangeShapes Go.WideShapes Go.ChangeAt Go.RowKit Go.Proofs

theorem own : ownKnob Tryz.prog.godebug = none := by kernel_rfl
theorem laidOut : laidOutB Tryz.prog = true := by kernel_rfl
theorem door_met (os : Os) (args : Array Value) : laidMetH Tryz.prog Rows.gasTreatedRow.laid ((World.doorLaid Tryz.prog 400 os).forCall (fun _ _ => 0) ⟨#[], args, []⟩).memory :=
  laidMetH_of_parts3 (fuel := 8) (laidMet_of_run' 8 (by kernel_rfl) (by kernel_rfl)) (by kernel_rfl) (by kernel_rfl)

set_option maxRecDepth 100000 in
theorem lifted (os : Os) (started : os.Started) (H : Type) (enc : TypeId × Value → H) :
    ReturnsInHanded {} Tryz.checked os 8 .any (fun w args => (Rows.gasTreatedSpec.pre enc Tryz.prog Tryz.f8 [] false w args ∧ laidMetH Tryz.prog Rows.gasTreatedRow.laid w) ∧ sizedMet enc Tryz.prog Tryz.f8 (OpenSpec.ofChange Rows.gasTreatedSpec) false w args)
      (Rows.gasTreatedSpec.post enc Tryz.prog Tryz.f8 false true false false) := by
  refine returnsInHanded_of_change_and (C := Tryz.checked) (X := fun w _ => laidMetH Tryz.prog Rows.gasTreatedRow.laid w) (fun _ _ _ hh h => h.of_heap hh) own started (by kernel_rfl) Tryz.func8
    (ChangeSpec.witness_shaped (enc := enc) (C := Tryz.checked) (os := os) (X := fun w _ => laidMetH Tryz.prog Rows.gasTreatedRow.laid w) false (World.doorLaid Tryz.prog 400 os) #[.agg #[.slice none 0 0, .slice none 0 0], .agg #[.slice none 0 0], .slice none 0 0, .agg #[.int .i64 0, .int .i64 0], .agg #[.int .i64 0, .int .i64 0]] 8 rfl (World.shaped_of_RefB (by kernel_rfl) (by kernel_rfl)) (by kernel_rfl) (by kernel_rfl) (by kernel_rfl) (door_met os _)) ?_
  intro W base args ds gs before hval0 hW _ _ hL _
  have hval : ∀ (j : Nat) t v, Tryz.f8.params[j]? = some t → args[j]? = some v → Value.okWide Tryz.prog W .any base t v := hval0
  have hW' := hW
  obtain ⟨p, q, hA0, hV, rfl, hfz, hnd⟩ := hW
  have hA : DataW.TrodAll enc Tryz.prog W 0 (fun _ => true) true Tryz.f8.params.toList args.toList ds p := hA0
  rw [Tryz.params8] at hA hval
  obtain ⟨v0, vs0, d0, ds0, p0, q0, hargs, rfl, rfl, h0, r0⟩ := trodAll_cons hA
  obtain ⟨v1, vs1, d1, ds1, p1, q1, rfl, rfl, rfl, h1, r1⟩ := trodAll_cons r0
  obtain ⟨v2, vs2, d2, ds2, p2, q2, rfl, rfl, rfl, h2, r2⟩ := trodAll_cons r1
  obtain ⟨v3, vs3, d3, ds3, p3, q3, rfl, rfl, rfl, h3, r3⟩ := trodAll_cons r2
  obtain ⟨v4, vs4, d4, ds4, p4, q4, rfl, rfl, rfl, h4, r4⟩ := trodAll_cons r3
  obtain ⟨rfl, rfl, rfl⟩ := trodAll_nil r4
  obtain rfl : args = #[v0, v1, v2, v3, v4] := by cases args; simp_all
  obtain ⟨rfl, rfl⟩ := trodVars_none hV
  have k0 := h0
  have lt0 : ∀ x ∈ p0, x.block < W.heap.size := by obtain ⟨m, hm⟩ := k0; exact DataW.trod_lt m _ _ _ hm
  have u0 := hval 0 25 v0 rfl rfl
  obtain ⟨pA, pn, pc, ps, sA, sn, sc, ss, rfl, hP, hS⟩ := arg_table u0 h0
  have k1 := h1
  have lt1 : ∀ x ∈ p1, x.block < W.heap.size := by obtain ⟨m, hm⟩ := k1; exact DataW.trod_lt m _ _ _ hm
  have u1 := hval 1 28 v1 rfl rfl
  obtain ⟨rA, rn, rc, rs, rfl, hR⟩ := arg_man u1 h1
  have k2 := h2
  have lt2 : ∀ x ∈ p2, x.block < W.heap.size := by obtain ⟨m, hm⟩ := k2; exact DataW.trod_lt m _ _ _ hm
  have u2 := hval 2 29 v2 rfl rfl
  obtain ⟨A2, n2, c2, l2, rfl, hd2, hc2, hm2, hA2⟩ := arg_dive u2 h2
  have k3 := h3
  have lt3 : ∀ x ∈ p3, x.block < W.heap.size := by obtain ⟨m, hm⟩ := k3; exact DataW.trod_lt m _ _ _ hm
  have u3 := hval 3 43 v3 rfl rfl
  obtain ⟨a3, b3, rfl, w3, x3⟩ := arg_span u3 h3
  have k4 := h4
  have lt4 : ∀ x ∈ p4, x.block < W.heap.size := by obtain ⟨m, hm⟩ := k4; exact DataW.trod_lt m _ _ _ hm
  have u4 := hval 4 31 v4 rfl rfl
  obtain ⟨a4, b4, rfl, w4, x4⟩ := arg_stop u4 h4
  clear hA0 hval0
  simp only [List.append_nil] at hW'
  refine (gasTreated_walk ⟨pA, sA, rA, pn, pc, sn, sc, rn, rc, ps, ss, rs⟩ A2 n2 c2 l2 hA2 a3 b3 a4 b4 W ⟨hP, hS, hR⟩ hd2).mono fun e W' ⟨he, bel⟩ => ?_
  subst he
  exact ⟨_, rfl, _, _, _, [], _, [], hW', trodAll_mk1 (shut_bool Tryz.underlying4 _), (trodAll_cons_mk (Below.trod laidOut (by kernel_rfl) (of_decide_eq_true (by kernel_rfl)) k0 bel lt0) (trodAll_cons_mk (Below.trod laidOut (by kernel_rfl) (of_decide_eq_true (by kernel_rfl)) k1 bel lt1) (trodAll_cons_mk (Below.trod laidOut (by kernel_rfl) (of_decide_eq_true (by kernel_rfl)) k2 bel lt2) (trodAll_cons_mk (Below.trod laidOut (by kernel_rfl) (of_decide_eq_true (by kernel_rfl)) k3 bel lt3) (trodAll_cons_mk (Below.trod laidOut (by kernel_rfl) (of_decide_eq_true (by kernel_rfl)) k4 bel lt4) trodAll_mk0))))), rfl, bel.frame _, fun h => by cases h⟩

theorem row_holds : Rows.GasTreatedSaid :=
  OpenClaim.holds_of_wide 8 Tryz.f8 rfl rfl rfl rfl rfl rfl rfl ⟨rfl, rfl, rfl, rfl, rfl⟩ rfl rfl rfl rfl rfl (by kernel_rfl) Tryz.func8 (by kernel_rfl)
    (of_decide_eq_true (by kernel_rfl)) (by unfold Func.isWrapper; first | (rw [if_pos (by decide +kernel)]; kernel_rfl) | (rw [if_neg (by decide +kernel)]; exact ⟨rfl, rfl⟩))
    (fun os started H enc _ => lifted os started H enc)

theorem gasTreated_holds : Rows.GasTreatedCardSaid :=
  Claim7.holds_tied_plain_at .later [] [.data, .data, .data] true (true, "4fc05ff97337c211e58e94116c1afb33103fda01ac6f5a8902717e04a03fffff") true
    row_holds (fun _ h => by cases h) (by kernel_rfl) (fun _ h => by cases h) gasTreated_row_tie rfl ⟨rfl, rfl⟩ (by kernel_rfl) rfl
    (fun f fn hf hfn => by
      obtain rfl : f = 8 := Option.some.inj ((show Tryz.prog.funcNamed "bathyal/bathyallaw02.GasTreated" = some 8 by kernel_rfl).symm.trans hf) |>.symm
      obtain rfl : fn = Tryz.f8 := (Option.some.inj (Tryz.func8.symm.trans hfn)).symm
      exact ⟨by kernel_rfl, fun j t ht => by
        rw [Tryz.params8] at ht
        have hm : t ∈ [25, 28, 29, 43, 31] := by simpa using Array.mem_of_getElem? ht
        have hall : ([25, 28, 29, 43, 31].all fun u => !Tryz.prog.wantsStandIn u) = true := by kernel_rfl
        exact (show Tryz.prog.wantsStandIn t = false by simpa using List.all_eq_true.1 hall t hm)⟩)
    (by kernel_rfl)
#print axioms gasTreated_holds
end Go.Proofs.YtahochgbkhpefabGreatDoor.gasTreated
