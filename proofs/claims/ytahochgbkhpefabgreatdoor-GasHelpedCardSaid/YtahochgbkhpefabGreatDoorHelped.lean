/-
  The statement GasHelped holds for every input: the law returns true and what came in reads as before.
-/
import Derived.Test.YtahochgbkhpefabGreatDoorP14
import Derived.Test.YtahochgbkhpefabGreatDoorP11
import Derived.Test.YtahochgbkhpefabGreatDoorRows
import Derived.Test.YtahochgbkhpefabGreatDoorTie
import Derived.Test.YtahochgbkhpefabGreatDoorCards
import Derived.Test.YtahochgbkhpefabGreatDoorChecked
import Derived.ProofKit
import Derived.OpenShut
import Derived.LaidMore
import Derived.Stop.Joined
import Derived.SevenTiedAt
import Derived.Carry
namespace Go.Proofs
open Go.RowKit Go.Shelf Gas
attribute [local go_sem ↓] Go.wp_at_zero Go.wp_at_succ

/-- The boxes of a table, a man and a stop, as a law lays them first. -/
structure Bs (w : World) (t : Tm) (a b : Int) (W : World) : Prop where
  below : Below w.heap.size w W
  tab : Has W w.heap.size 25 #[.slice t.pA t.pn t.pc, .slice t.sA t.sn t.sc]
  man : Has W (w.heap.size + 1) 28 #[.slice t.rA t.rn t.rc]
  st : Has W (w.heap.size + 1 + 1) 31 #[.int .i64 a, .int .i64 b]
theorem Bs.keep {w W W' : World} {t : Tm} {a b : Int} (h : Bs w t a b W) (hb : Below W.heap.size W W') : Bs w t a b W' := ⟨nextB h.below hb, h.tab.after hb, h.man.after hb, h.st.after hb⟩
theorem Bs.start (w : World) (t : Tm) (a b : Int) : Bs w t a b (((w.alloc (.cells #[.slice t.pA t.pn t.pc, .slice t.sA t.sn t.sc] 25)).alloc (.cells #[.slice t.rA t.rn t.rc] 28)).alloc (.cells #[.int .i64 a, .int .i64 b] 31)) :=
  ⟨newB (newB (newB (Below.refl _ _) _) _) _, ((Has.new w 25 _).alloc _).alloc _, (Has.new' _ 28 _ (by simp)).alloc _, Has.new' _ 31 _ (by simp)⟩

set_option maxHeartbeats 2000000 in
set_option maxRecDepth 50000 in
theorem gasHelped_walk (t : Tm) (A : Option Addr) (n c : Nat) (dive : List St) (hA : A = none → c = 0) (a b : Int) (w : World) (hi : t.In w) (hd : SlOf St.cs 4 w A n dive) :
    Calls Tryz.prog 3 #[t.tab, t.man, .slice A n c, .agg #[.int .i64 a, .int .i64 b]] w fun e w' => e = .returned (.bool true) ∧ Below w.heap.size w w' := by
  have HSh := Lib.hid fun (W : World) => short_c t A n c W
  have E0 := Lib.hid (Bs.start w t a b)
  cases hs : shortB t n
  · rw [hs] at HSh
    clear hs hi hd hA
    obtain ⟨pA, sA, rA, pn, pc, sn, sc, rn, rc, ps, ss, rs⟩ := t
    simp only [Tm.tab, Tm.man] at *
    go_enter Tryz.func3, Tryz.ntmps3
    go_wp2_with (first
      | (go_at_call 13; refine (HSh.out _).mono ?_; rintro e w13 ⟨rfl, hb⟩; have EE := Lib.hid (E0.out.keep hb); have ct := EE.out.tab.cell; have cm := EE.out.man.cell; have co := EE.out.st.cell; clear hb)
      | (go_at_call 15; refine (knownLaw_c _).mono ?_; rintro e w15 ⟨rfl, hb⟩; have HB := Lib.hid (nextB EE.out.below hb); clear hb))
    exact bodyPost_ret (results_tmp rfl _ _ _) rfl ⟨rfl, HB.out⟩
  · rw [hs] at HSh
    obtain ⟨hsm, hn7⟩ := short_small hs
    have HFi := Lib.hid fun (W : World) (hb : Below w.heap.size w W) => fine_c t hsm A n c dive (by omega) W (hi.keep hb) (hd.keep hb)
    cases hdb : definedB t.ps t.ss t.rs dive 0
    · rw [hdb] at HFi
      clear hs hi hd hA hsm hdb
      obtain ⟨pA, sA, rA, pn, pc, sn, sc, rn, rc, ps, ss, rs⟩ := t
      simp only [Tm.tab, Tm.man] at *
      go_enter Tryz.func3, Tryz.ntmps3
      go_wp2_with (first
        | (go_at_call 13; refine (HSh.out _).mono ?_; rintro e w13 ⟨rfl, hb⟩; have EE := Lib.hid (E0.out.keep hb); have ct := EE.out.tab.cell; have cm := EE.out.man.cell; have co := EE.out.st.cell; clear hb)
        | (go_at_call 14; refine (HFi.out _ EE.out.below).mono ?_; rintro e w14 ⟨rfl, hb⟩; replace EE := Lib.hid (EE.out.keep hb); replace ct := EE.out.tab.cell; replace cm := EE.out.man.cell; replace co := EE.out.st.cell; clear hb)
        | (go_at_call 15; refine (knownLaw_c _).mono ?_; rintro e w15 ⟨rfl, hb⟩; have HB := Lib.hid (nextB EE.out.below hb); clear hb))
      exact bodyPost_ret (results_tmp rfl _ _ _) rfl ⟨rfl, HB.out⟩
    · rw [hdb] at HFi
      by_cases hn4 : n < 4
      · have hn4b : ¬ 4 ≤ n := by omega
        have hdl := hd.1
        have hsem := stop_sem hdb (by omega)
        have HSt := Lib.hid fun (W : World) (hb : Below w.heap.size w W) => Stop_c t hsm A n c dive (by omega) W (hi.keep hb) (hd.keep hb)
        have HSu := Lib.hid fun (W : World) (hb : Below w.heap.size w W) => Surely_c t hsm A n c dive (by omega) W (hi.keep hb) (hd.keep hb)
        rw [show sureF t dive = (keptF t (h0, true) dive, 0) by simp [sureF, hdb]] at HSu
        have HLs := Lib.hid fun (W : World) (hb : Below w.heap.size w W) => listed_c t hsm.s a b W (hi.ss.keep hb)
        have HLl := Lib.hid fun (x y : Int) (W : World) (hb : Below w.heap.size w W) => listed_c t hsm.s x y W (hi.ss.keep hb)
        have HSp := Lib.hid fun (x y : Int) (W : World) (hb : Below w.heap.size w W) => stopped_c A n c dive hA (by omega) x y W (hd.keep hb)
        have HSS := Lib.hid fun (x y : Int) (R : Bool) (hR : sureF t (dive ++ [stayS x x y]) = (R, 0)) (W : World) (hb : Below w.heap.size w W) (g0 cap : Nat) (hsl : SlOf St.cs 4 W (some ⟨g0, 0, none⟩) (n + 1) (dive ++ [stayS x x y])) =>
          (show Calls Tryz.prog 17 #[t.tab, t.man, .slice (some ⟨g0, 0, none⟩) (n + 1) cap] W fun e w' => e = .returned (.tuple #[.bool R, .int .i64 0]) ∧ Below W.heap.size W w' by
            have := Surely_c t hsm (some ⟨g0, 0, none⟩) (n + 1) cap (dive ++ [stayS x x y]) (by omega) W (hi.keep hb) hsl
            rw [hR] at this; exact this)
        have hlb : ∀ x y : Int, listB t.ss x y = true → x ∈ t.ss ∧ 1 ≤ y ∧ y ≤ 30 := fun x y h => by
          simp only [listB, Bool.and_eq_true, decide_eq_true_eq] at h
          exact ⟨by simpa using h.1, h.2⟩
        have hbl : ∀ x y : Int, x ∈ t.ss → 1 ≤ y → y ≤ 30 → listB t.ss x y = true := fun x y h1 h2 h3 => by
          simp [listB, h1, h2, h3]
        clear hs hi hd hA hsm hdb hdl
        rcases hsem with ⟨h1, h2⟩ | ⟨h1, h2, h3⟩ | ⟨h1, sd, sm, h2, h3, h4, h5, h6, h7⟩
        · rw [h1] at HSu
          rw [h2, show stE ((0, 0), 0) = .tuple #[.agg #[.int .i64 0, .int .i64 0], .int .i64 0] from rfl] at HSt
          obtain ⟨sd, hsd⟩ : ∃ sd : Int, sd = 0 := ⟨_, rfl⟩
          obtain ⟨sm, hsm⟩ : ∃ sm : Int, sm = 0 := ⟨_, rfl⟩
          clear h1 h2 HLs HLl HSp HSS hlb hbl
          obtain ⟨pA, sA, rA, pn, pc, sn, sc, rn, rc, ps, ss, rs⟩ := t
          simp only [Tm.tab, Tm.man] at *
          go_enter Tryz.func3, Tryz.ntmps3
          go_wp2_with (first
            | (go_at_call 13; refine (HSh.out _).mono ?_; rintro e w13 ⟨rfl, hb⟩; have EE := Lib.hid (E0.out.keep hb); have ct := EE.out.tab.cell; have cm := EE.out.man.cell; have co := EE.out.st.cell; clear hb)
            | (go_at_call 14; refine (HFi.out _ EE.out.below).mono ?_; rintro e w14 ⟨rfl, hb⟩; replace EE := Lib.hid (EE.out.keep hb); replace ct := EE.out.tab.cell; replace cm := EE.out.man.cell; replace co := EE.out.st.cell; clear hb)
            | (go_at_call 16; refine (HSt.out _ EE.out.below).mono ?_; rintro e w16 ⟨rfl, hb⟩; replace EE := Lib.hid (EE.out.keep hb); replace ct := EE.out.tab.cell; replace cm := EE.out.man.cell; replace co := EE.out.st.cell; clear hb)
            | (refine wpList_store_all rfl 31 _ _ rfl w16.heap.size rfl _ rfl 31 _ (Has.new w16 31 _) (by kernel_rfl) rfl (by simp [Value.oneCell']) ?_; have hb := box_below (W := w16) #[.int .i64 0, .int .i64 0] #[.int .i64 0, .int .i64 0] 31; have XX := Lib.hid (box_has (W := w16) #[.int .i64 0, .int .i64 0] #[.int .i64 0, .int .i64 0] 31); have cx := XX.out.cell; replace EE := Lib.hid (EE.out.keep hb); replace ct := EE.out.tab.cell; replace cm := EE.out.man.cell; replace co := EE.out.st.cell; clear hb)
            | (go_at_call 17; refine (HSu.out _ EE.out.below).mono ?_; rintro e w17 ⟨rfl, hb⟩; replace EE := Lib.hid (EE.out.keep hb); replace XX := Lib.hid (XX.out.after hb); replace cx := XX.out.cell; replace ct := EE.out.tab.cell; replace cm := EE.out.man.cell; replace co := EE.out.st.cell; clear hb)
            | (go_at_call 15; refine (knownLaw_c _).mono ?_; rintro e w15 ⟨rfl, hb⟩; have HB := Lib.hid (nextB EE.out.below hb); clear hb))
          exact bodyPost_ret (results_tmp rfl _ _ _) rfl ⟨rfl, HB.out⟩
        · rw [h1] at HSu
          rw [h2, show stE ((0, 0), 5) = .tuple #[.agg #[.int .i64 0, .int .i64 0], .int .i64 5] from rfl] at HSt
          cases hl : listB t.ss a b
          · rw [hl] at HLs
            clear h1 h2 h3 HLl HSp HSS hlb hbl hl
            obtain ⟨pA, sA, rA, pn, pc, sn, sc, rn, rc, ps, ss, rs⟩ := t
            simp only [Tm.tab, Tm.man] at *
            go_enter Tryz.func3, Tryz.ntmps3
            go_wp2_with (first
              | (go_at_call 13; refine (HSh.out _).mono ?_; rintro e w13 ⟨rfl, hb⟩; have EE := Lib.hid (E0.out.keep hb); have ct := EE.out.tab.cell; have cm := EE.out.man.cell; have co := EE.out.st.cell; clear hb)
              | (go_at_call 14; refine (HFi.out _ EE.out.below).mono ?_; rintro e w14 ⟨rfl, hb⟩; replace EE := Lib.hid (EE.out.keep hb); replace ct := EE.out.tab.cell; replace cm := EE.out.man.cell; replace co := EE.out.st.cell; clear hb)
              | (go_at_call 16; refine (HSt.out _ EE.out.below).mono ?_; rintro e w16 ⟨rfl, hb⟩; replace EE := Lib.hid (EE.out.keep hb); replace ct := EE.out.tab.cell; replace cm := EE.out.man.cell; replace co := EE.out.st.cell; clear hb)
              | (refine wpList_store_all rfl 31 _ _ rfl w16.heap.size rfl _ rfl 31 _ (Has.new w16 31 _) (by kernel_rfl) rfl (by simp [Value.oneCell']) ?_; have hb := box_below (W := w16) #[.int .i64 0, .int .i64 0] #[.int .i64 0, .int .i64 0] 31; have XX := Lib.hid (box_has (W := w16) #[.int .i64 0, .int .i64 0] #[.int .i64 0, .int .i64 0] 31); have cx := XX.out.cell; replace EE := Lib.hid (EE.out.keep hb); replace ct := EE.out.tab.cell; replace cm := EE.out.man.cell; replace co := EE.out.st.cell; clear hb)
              | (go_at_call 17; refine (HSu.out _ EE.out.below).mono ?_; rintro e w17 ⟨rfl, hb⟩; replace EE := Lib.hid (EE.out.keep hb); replace XX := Lib.hid (XX.out.after hb); replace cx := XX.out.cell; replace ct := EE.out.tab.cell; replace cm := EE.out.man.cell; replace co := EE.out.st.cell; clear hb)
              | (go_at_call 18; refine (HLs.out _ EE.out.below).mono ?_; rintro e w18 ⟨rfl, hb⟩; replace EE := Lib.hid (EE.out.keep hb); replace XX := Lib.hid (XX.out.after hb); replace cx := XX.out.cell; replace ct := EE.out.tab.cell; replace cm := EE.out.man.cell; replace co := EE.out.st.cell; clear hb)
              | (go_at_call 15; refine (knownLaw_c _).mono ?_; rintro e w15 ⟨rfl, hb⟩; have HB := Lib.hid (nextB EE.out.below hb); clear hb))
            exact bodyPost_ret (results_tmp rfl _ _ _) rfl ⟨rfl, HB.out⟩
          · rw [hl] at HLs
            obtain ⟨l1, l2, l3⟩ := hlb _ _ hl
            have HS1 := Lib.hid (HSS.out a b false (h3 a b l1 l2 l3))
            clear h1 h2 h3 HLl HSS hlb hbl hl
            obtain ⟨pA, sA, rA, pn, pc, sn, sc, rn, rc, ps, ss, rs⟩ := t
            simp only [Tm.tab, Tm.man] at *
            go_enter Tryz.func3, Tryz.ntmps3
            go_wp2_with (first
              | (go_at_call 13; refine (HSh.out _).mono ?_; rintro e w13 ⟨rfl, hb⟩; have EE := Lib.hid (E0.out.keep hb); have ct := EE.out.tab.cell; have cm := EE.out.man.cell; have co := EE.out.st.cell; clear hb)
              | (go_at_call 14; refine (HFi.out _ EE.out.below).mono ?_; rintro e w14 ⟨rfl, hb⟩; replace EE := Lib.hid (EE.out.keep hb); replace ct := EE.out.tab.cell; replace cm := EE.out.man.cell; replace co := EE.out.st.cell; clear hb)
              | (go_at_call 16; refine (HSt.out _ EE.out.below).mono ?_; rintro e w16 ⟨rfl, hb⟩; replace EE := Lib.hid (EE.out.keep hb); replace ct := EE.out.tab.cell; replace cm := EE.out.man.cell; replace co := EE.out.st.cell; clear hb)
              | (refine wpList_store_all rfl 31 _ _ rfl w16.heap.size rfl _ rfl 31 _ (Has.new w16 31 _) (by kernel_rfl) rfl (by simp [Value.oneCell']) ?_; have hb := box_below (W := w16) #[.int .i64 0, .int .i64 0] #[.int .i64 0, .int .i64 0] 31; have XX := Lib.hid (box_has (W := w16) #[.int .i64 0, .int .i64 0] #[.int .i64 0, .int .i64 0] 31); have cx := XX.out.cell; replace EE := Lib.hid (EE.out.keep hb); replace ct := EE.out.tab.cell; replace cm := EE.out.man.cell; replace co := EE.out.st.cell; clear hb)
              | (go_at_call 17; refine (HSu.out _ EE.out.below).mono ?_; rintro e w17 ⟨rfl, hb⟩; replace EE := Lib.hid (EE.out.keep hb); replace XX := Lib.hid (XX.out.after hb); replace cx := XX.out.cell; replace ct := EE.out.tab.cell; replace cm := EE.out.man.cell; replace co := EE.out.st.cell; clear hb)
              | (go_at_call 18; refine (HLs.out _ EE.out.below).mono ?_; rintro e w18 ⟨rfl, hb⟩; replace EE := Lib.hid (EE.out.keep hb); replace XX := Lib.hid (XX.out.after hb); replace cx := XX.out.cell; replace ct := EE.out.tab.cell; replace cm := EE.out.man.cell; replace co := EE.out.st.cell; clear hb)
              | (go_at_call 15; refine (knownLaw_c _).mono ?_; rintro e w15 ⟨rfl, hb⟩; have HB := Lib.hid (nextB EE.out.below hb); clear hb))
            apply wp_loose 11 (.v (.agg #[.slice pA pn pc, .slice sA sn sc]) :: .v (.agg #[.slice rA rn rc]) :: .v (.slice A n c) :: .v (.agg #[.int .i64 a, .int .i64 b]) :: .r (fun v w' => ∃ g0 cap, v = .slice (some ⟨g0, 0, none⟩) (n + 1) cap ∧ SlOf St.cs 4 w' (some ⟨g0, 0, none⟩) (n + 1) (dive ++ [stayS a a b])) :: .v (.tuple #[.bool false, .int .i64 0]) :: .v (.tuple #[.bool false, .int .i64 0]) :: .v (.bool false) :: .v (.int .i64 0) :: .v (.bool false) :: .v (.int .i64 0) :: []) (by kernel_rfl) (by kernel_rfl) (by kernel_rfl) (by decide) rfl
            intro K hK
            refine OblS.row rfl 25 (.tmp 4) rfl w.heap.size (by kernel_rfl) 25 _ _ EE.out.tab Tryz.underlying25 rfl (by kernel_rfl) ?_
            refine OblS.row rfl 28 (.tmp 5) rfl (w.heap.size + 1) (by kernel_rfl) 28 _ _ EE.out.man Tryz.underlying28 rfl (by kernel_rfl) ?_
            refine OblS.val (by kernel_rfl) (fun w' _ _ => (by kernel_rfl)) ?_
            refine OblS.row rfl 31 (.tmp 7) rfl (w.heap.size + 1 + 1) (by kernel_rfl) 31 _ _ EE.out.st Tryz.underlying31 rfl (by kernel_rfl) ?_
            refine OblS.callR 19 (by rintro v x y ⟨g0, cap, e, h⟩ hb; exact ⟨g0, cap, e, h.keep hb⟩) (by kernel_rfl) (fun w' hb _ => ⟨#[.slice A n c, .agg #[.int .i64 a, .int .i64 b]], (by kernel_rfl), (HSp.out _ _ w' (nextB EE.out.below hb)).mono fun e x ⟨g0, cap, h1, h2, h3⟩ => ⟨_, h1, ⟨g0, cap, rfl, h2⟩, h3⟩⟩) ?_
            intro vs
            refine OblS.call 17 (by kernel_rfl) (fun w' hb hH => ?_) ?_
            · obtain ⟨g0, cap, rfl, hsl⟩ := hH _ (List.mem_cons_self ..) (by kernel_rfl)
              exact ⟨#[.agg #[.slice pA pn pc, .slice sA sn sc], .agg #[.slice rA rn rc], .slice (some ⟨g0, 0, none⟩) (n + 1) cap], (by kernel_rfl), HS1.out w' (nextB EE.out.below hb) g0 cap hsl⟩
            iterate 5 refine OblS.val (by kernel_rfl) (fun w' _ _ => (by kernel_rfl)) ?_
            apply OblS.nil
            apply hK
            intro w6 hb hH
            clear hH hK K
            simp only [Act.put, List.setIfInBounds_toArray, List.set_cons_zero, List.set_cons_succ, List.drop_succ_cons, List.drop_zero]
            replace EE := Lib.hid (EE.out.keep hb); replace ct := EE.out.tab.cell; replace cm := EE.out.man.cell; replace co := EE.out.st.cell; replace XX := Lib.hid (XX.out.after hb); replace cx := XX.out.cell; clear hb
            go_wp2_with (first
              | (go_at_call 15; refine (knownLaw_c _).mono ?_; rintro e w15 ⟨rfl, hb⟩; have HB := Lib.hid (nextB EE.out.below hb); clear hb))
            exact bodyPost_ret (results_tmp rfl _ _ _) rfl ⟨rfl, HB.out⟩
        · rw [h1] at HSu
          rw [h2, show stE ((sd, sm), 0) = .tuple #[.agg #[.int .i64 sd, .int .i64 sm], .int .i64 0] from rfl] at HSt
          have HLo := Lib.hid (HLl.out sd sm)
          rw [hbl sd sm h3 h4 h5] at HLo
          have HS0 := Lib.hid (HSS.out sd sm true h6)
          have hne : ¬ sm = 0 := by omega
          cases hl : listB t.ss a b
          · rw [hl] at HLs
            clear h1 h2 h3 h6 h7 HLl HSS hlb hbl hl
            obtain ⟨pA, sA, rA, pn, pc, sn, sc, rn, rc, ps, ss, rs⟩ := t
            simp only [Tm.tab, Tm.man] at *
            go_enter Tryz.func3, Tryz.ntmps3
            go_wp2_with (first
              | (go_at_call 13; refine (HSh.out _).mono ?_; rintro e w13 ⟨rfl, hb⟩; have EE := Lib.hid (E0.out.keep hb); have ct := EE.out.tab.cell; have cm := EE.out.man.cell; have co := EE.out.st.cell; clear hb)
              | (go_at_call 14; refine (HFi.out _ EE.out.below).mono ?_; rintro e w14 ⟨rfl, hb⟩; replace EE := Lib.hid (EE.out.keep hb); replace ct := EE.out.tab.cell; replace cm := EE.out.man.cell; replace co := EE.out.st.cell; clear hb)
              | (go_at_call 16; refine (HSt.out _ EE.out.below).mono ?_; rintro e w16 ⟨rfl, hb⟩; replace EE := Lib.hid (EE.out.keep hb); replace ct := EE.out.tab.cell; replace cm := EE.out.man.cell; replace co := EE.out.st.cell; clear hb)
              | (refine wpList_store_all rfl 31 _ _ rfl w16.heap.size rfl _ rfl 31 _ (Has.new w16 31 _) (by kernel_rfl) rfl (by simp [Value.oneCell']) ?_; have hb := box_below (W := w16) #[.int .i64 0, .int .i64 0] #[.int .i64 sd, .int .i64 sm] 31; have XX := Lib.hid (box_has (W := w16) #[.int .i64 0, .int .i64 0] #[.int .i64 sd, .int .i64 sm] 31); have cx := XX.out.cell; replace EE := Lib.hid (EE.out.keep hb); replace ct := EE.out.tab.cell; replace cm := EE.out.man.cell; replace co := EE.out.st.cell; clear hb)
              | (go_at_call 17; refine (HSu.out _ EE.out.below).mono ?_; rintro e w17 ⟨rfl, hb⟩; replace EE := Lib.hid (EE.out.keep hb); replace XX := Lib.hid (XX.out.after hb); replace cx := XX.out.cell; replace ct := EE.out.tab.cell; replace cm := EE.out.man.cell; replace co := EE.out.st.cell; clear hb)
              | (go_at_call 18; refine (HLo.out _ EE.out.below).mono ?_; rintro e w18 ⟨rfl, hb⟩; replace EE := Lib.hid (EE.out.keep hb); replace XX := Lib.hid (XX.out.after hb); replace cx := XX.out.cell; replace ct := EE.out.tab.cell; replace cm := EE.out.man.cell; replace co := EE.out.st.cell; clear hb)
              | (go_at_call 15; refine (knownLaw_c _).mono ?_; rintro e w15 ⟨rfl, hb⟩; have HB := Lib.hid (nextB EE.out.below hb); clear hb))
            apply wp_loose 11 (.v (.agg #[.slice pA pn pc, .slice sA sn sc]) :: .v (.agg #[.slice rA rn rc]) :: .v (.slice A n c) :: .v (.agg #[.int .i64 sd, .int .i64 sm]) :: .r (fun v w' => ∃ g0 cap, v = .slice (some ⟨g0, 0, none⟩) (n + 1) cap ∧ SlOf St.cs 4 w' (some ⟨g0, 0, none⟩) (n + 1) (dive ++ [stayS sd sd sm])) :: .v (.tuple #[.bool true, .int .i64 0]) :: .v (.tuple #[.bool true, .int .i64 0]) :: .v (.bool true) :: .v (.int .i64 0) :: .v (.bool true) :: .v (.int .i64 0) :: []) (by kernel_rfl) (by kernel_rfl) (by kernel_rfl) (by decide) rfl
            intro K hK
            refine OblS.row rfl 25 (.tmp 4) rfl w.heap.size (by kernel_rfl) 25 _ _ EE.out.tab Tryz.underlying25 rfl (by kernel_rfl) ?_
            refine OblS.row rfl 28 (.tmp 5) rfl (w.heap.size + 1) (by kernel_rfl) 28 _ _ EE.out.man Tryz.underlying28 rfl (by kernel_rfl) ?_
            refine OblS.val (by kernel_rfl) (fun w' _ _ => (by kernel_rfl)) ?_
            refine OblS.row rfl 31 (.tmp 9) rfl w16.heap.size (by kernel_rfl) 31 _ _ XX.out Tryz.underlying31 rfl (by kernel_rfl) ?_
            refine OblS.callR 19 (by rintro v x y ⟨g0, cap, e, h⟩ hb; exact ⟨g0, cap, e, h.keep hb⟩) (by kernel_rfl) (fun w' hb _ => ⟨#[.slice A n c, .agg #[.int .i64 sd, .int .i64 sm]], (by kernel_rfl), (HSp.out _ _ w' (nextB EE.out.below hb)).mono fun e x ⟨g0, cap, h1, h2, h3⟩ => ⟨_, h1, ⟨g0, cap, rfl, h2⟩, h3⟩⟩) ?_
            intro vs
            refine OblS.call 17 (by kernel_rfl) (fun w' hb hH => ?_) ?_
            · obtain ⟨g0, cap, rfl, hsl⟩ := hH _ (List.mem_cons_self ..) (by kernel_rfl)
              exact ⟨#[.agg #[.slice pA pn pc, .slice sA sn sc], .agg #[.slice rA rn rc], .slice (some ⟨g0, 0, none⟩) (n + 1) cap], (by kernel_rfl), HS0.out w' (nextB EE.out.below hb) g0 cap hsl⟩
            iterate 5 refine OblS.val (by kernel_rfl) (fun w' _ _ => (by kernel_rfl)) ?_
            apply OblS.nil
            apply hK
            intro w6 hb hH
            clear hH hK K
            simp only [Act.put, List.setIfInBounds_toArray, List.set_cons_zero, List.set_cons_succ, List.drop_succ_cons, List.drop_zero]
            replace EE := Lib.hid (EE.out.keep hb); replace ct := EE.out.tab.cell; replace cm := EE.out.man.cell; replace co := EE.out.st.cell; replace XX := Lib.hid (XX.out.after hb); replace cx := XX.out.cell; clear hb
            go_wp2_with (first
              | (go_at_call 18; refine (HLs.out _ EE.out.below).mono ?_; rintro e w18 ⟨rfl, hb⟩; replace EE := Lib.hid (EE.out.keep hb); replace XX := Lib.hid (XX.out.after hb); replace cx := XX.out.cell; replace ct := EE.out.tab.cell; replace cm := EE.out.man.cell; replace co := EE.out.st.cell; clear hb)
              | (go_at_call 15; refine (knownLaw_c _).mono ?_; rintro e w15 ⟨rfl, hb⟩; have HB := Lib.hid (nextB EE.out.below hb); clear hb))
            exact bodyPost_ret (results_tmp rfl _ _ _) rfl ⟨rfl, HB.out⟩
          · rw [hl] at HLs
            obtain ⟨l1, l2, l3⟩ := hlb _ _ hl
            obtain ⟨R, hR, hcmp⟩ := h7 a b l1 l2 l3
            have HS1 := Lib.hid (HSS.out a b R hR)
            clear h1 h2 h3 h6 h7 HLl HSS hlb hbl hl hR
            cases R
            · clear hcmp
              obtain ⟨pA, sA, rA, pn, pc, sn, sc, rn, rc, ps, ss, rs⟩ := t
              simp only [Tm.tab, Tm.man] at *
              go_enter Tryz.func3, Tryz.ntmps3
              go_wp2_with (first
                | (go_at_call 13; refine (HSh.out _).mono ?_; rintro e w13 ⟨rfl, hb⟩; have EE := Lib.hid (E0.out.keep hb); have ct := EE.out.tab.cell; have cm := EE.out.man.cell; have co := EE.out.st.cell; clear hb)
                | (go_at_call 14; refine (HFi.out _ EE.out.below).mono ?_; rintro e w14 ⟨rfl, hb⟩; replace EE := Lib.hid (EE.out.keep hb); replace ct := EE.out.tab.cell; replace cm := EE.out.man.cell; replace co := EE.out.st.cell; clear hb)
                | (go_at_call 16; refine (HSt.out _ EE.out.below).mono ?_; rintro e w16 ⟨rfl, hb⟩; replace EE := Lib.hid (EE.out.keep hb); replace ct := EE.out.tab.cell; replace cm := EE.out.man.cell; replace co := EE.out.st.cell; clear hb)
                | (refine wpList_store_all rfl 31 _ _ rfl w16.heap.size rfl _ rfl 31 _ (Has.new w16 31 _) (by kernel_rfl) rfl (by simp [Value.oneCell']) ?_; have hb := box_below (W := w16) #[.int .i64 0, .int .i64 0] #[.int .i64 sd, .int .i64 sm] 31; have XX := Lib.hid (box_has (W := w16) #[.int .i64 0, .int .i64 0] #[.int .i64 sd, .int .i64 sm] 31); have cx := XX.out.cell; replace EE := Lib.hid (EE.out.keep hb); replace ct := EE.out.tab.cell; replace cm := EE.out.man.cell; replace co := EE.out.st.cell; clear hb)
                | (go_at_call 17; refine (HSu.out _ EE.out.below).mono ?_; rintro e w17 ⟨rfl, hb⟩; replace EE := Lib.hid (EE.out.keep hb); replace XX := Lib.hid (XX.out.after hb); replace cx := XX.out.cell; replace ct := EE.out.tab.cell; replace cm := EE.out.man.cell; replace co := EE.out.st.cell; clear hb)
                | (go_at_call 18; refine (HLo.out _ EE.out.below).mono ?_; rintro e w18 ⟨rfl, hb⟩; replace EE := Lib.hid (EE.out.keep hb); replace XX := Lib.hid (XX.out.after hb); replace cx := XX.out.cell; replace ct := EE.out.tab.cell; replace cm := EE.out.man.cell; replace co := EE.out.st.cell; clear hb)
                | (go_at_call 15; refine (knownLaw_c _).mono ?_; rintro e w15 ⟨rfl, hb⟩; have HB := Lib.hid (nextB EE.out.below hb); clear hb))
              apply wp_loose 11 (.v (.agg #[.slice pA pn pc, .slice sA sn sc]) :: .v (.agg #[.slice rA rn rc]) :: .v (.slice A n c) :: .v (.agg #[.int .i64 sd, .int .i64 sm]) :: .r (fun v w' => ∃ g0 cap, v = .slice (some ⟨g0, 0, none⟩) (n + 1) cap ∧ SlOf St.cs 4 w' (some ⟨g0, 0, none⟩) (n + 1) (dive ++ [stayS sd sd sm])) :: .v (.tuple #[.bool true, .int .i64 0]) :: .v (.tuple #[.bool true, .int .i64 0]) :: .v (.bool true) :: .v (.int .i64 0) :: .v (.bool true) :: .v (.int .i64 0) :: []) (by kernel_rfl) (by kernel_rfl) (by kernel_rfl) (by decide) rfl
              intro K hK
              refine OblS.row rfl 25 (.tmp 4) rfl w.heap.size (by kernel_rfl) 25 _ _ EE.out.tab Tryz.underlying25 rfl (by kernel_rfl) ?_
              refine OblS.row rfl 28 (.tmp 5) rfl (w.heap.size + 1) (by kernel_rfl) 28 _ _ EE.out.man Tryz.underlying28 rfl (by kernel_rfl) ?_
              refine OblS.val (by kernel_rfl) (fun w' _ _ => (by kernel_rfl)) ?_
              refine OblS.row rfl 31 (.tmp 9) rfl w16.heap.size (by kernel_rfl) 31 _ _ XX.out Tryz.underlying31 rfl (by kernel_rfl) ?_
              refine OblS.callR 19 (by rintro v x y ⟨g0, cap, e, h⟩ hb; exact ⟨g0, cap, e, h.keep hb⟩) (by kernel_rfl) (fun w' hb _ => ⟨#[.slice A n c, .agg #[.int .i64 sd, .int .i64 sm]], (by kernel_rfl), (HSp.out _ _ w' (nextB EE.out.below hb)).mono fun e x ⟨g0, cap, h1, h2, h3⟩ => ⟨_, h1, ⟨g0, cap, rfl, h2⟩, h3⟩⟩) ?_
              intro vs
              refine OblS.call 17 (by kernel_rfl) (fun w' hb hH => ?_) ?_
              · obtain ⟨g0, cap, rfl, hsl⟩ := hH _ (List.mem_cons_self ..) (by kernel_rfl)
                exact ⟨#[.agg #[.slice pA pn pc, .slice sA sn sc], .agg #[.slice rA rn rc], .slice (some ⟨g0, 0, none⟩) (n + 1) cap], (by kernel_rfl), HS0.out w' (nextB EE.out.below hb) g0 cap hsl⟩
              iterate 5 refine OblS.val (by kernel_rfl) (fun w' _ _ => (by kernel_rfl)) ?_
              apply OblS.nil
              apply hK
              intro w6 hb hH
              clear hH hK K
              simp only [Act.put, List.setIfInBounds_toArray, List.set_cons_zero, List.set_cons_succ, List.drop_succ_cons, List.drop_zero]
              replace EE := Lib.hid (EE.out.keep hb); replace ct := EE.out.tab.cell; replace cm := EE.out.man.cell; replace co := EE.out.st.cell; replace XX := Lib.hid (XX.out.after hb); replace cx := XX.out.cell; clear hb
              go_wp2_with (first
                | (go_at_call 18; refine (HLs.out _ EE.out.below).mono ?_; rintro e w18 ⟨rfl, hb⟩; replace EE := Lib.hid (EE.out.keep hb); replace XX := Lib.hid (XX.out.after hb); replace cx := XX.out.cell; replace ct := EE.out.tab.cell; replace cm := EE.out.man.cell; replace co := EE.out.st.cell; clear hb)
                | (go_at_call 15; refine (knownLaw_c _).mono ?_; rintro e w15 ⟨rfl, hb⟩; have HB := Lib.hid (nextB EE.out.below hb); clear hb))
              apply wp_loose 11 (.v (.agg #[.slice pA pn pc, .slice sA sn sc]) :: .v (.agg #[.slice rA rn rc]) :: .v (.slice A n c) :: .v (.agg #[.int .i64 a, .int .i64 b]) :: .r (fun v w' => ∃ g0 cap, v = .slice (some ⟨g0, 0, none⟩) (n + 1) cap ∧ SlOf St.cs 4 w' (some ⟨g0, 0, none⟩) (n + 1) (dive ++ [stayS a a b])) :: .v (.tuple #[.bool false, .int .i64 0]) :: .v (.tuple #[.bool false, .int .i64 0]) :: .v (.bool false) :: .v (.int .i64 0) :: .v (.bool false) :: .v (.int .i64 0) :: []) (by kernel_rfl) (by kernel_rfl) (by kernel_rfl) (by decide) rfl
              intro K hK
              refine OblS.row rfl 25 (.tmp 4) rfl w.heap.size (by kernel_rfl) 25 _ _ EE.out.tab Tryz.underlying25 rfl (by kernel_rfl) ?_
              refine OblS.row rfl 28 (.tmp 5) rfl (w.heap.size + 1) (by kernel_rfl) 28 _ _ EE.out.man Tryz.underlying28 rfl (by kernel_rfl) ?_
              refine OblS.val (by kernel_rfl) (fun w' _ _ => (by kernel_rfl)) ?_
              refine OblS.row rfl 31 (.tmp 7) rfl (w.heap.size + 1 + 1) (by kernel_rfl) 31 _ _ EE.out.st Tryz.underlying31 rfl (by kernel_rfl) ?_
              refine OblS.callR 19 (by rintro v x y ⟨g0, cap, e, h⟩ hb; exact ⟨g0, cap, e, h.keep hb⟩) (by kernel_rfl) (fun w' hb _ => ⟨#[.slice A n c, .agg #[.int .i64 a, .int .i64 b]], (by kernel_rfl), (HSp.out _ _ w' (nextB EE.out.below hb)).mono fun e x ⟨g0, cap, h1, h2, h3⟩ => ⟨_, h1, ⟨g0, cap, rfl, h2⟩, h3⟩⟩) ?_
              intro vs
              refine OblS.call 17 (by kernel_rfl) (fun w' hb hH => ?_) ?_
              · obtain ⟨g0, cap, rfl, hsl⟩ := hH _ (List.mem_cons_self ..) (by kernel_rfl)
                exact ⟨#[.agg #[.slice pA pn pc, .slice sA sn sc], .agg #[.slice rA rn rc], .slice (some ⟨g0, 0, none⟩) (n + 1) cap], (by kernel_rfl), HS1.out w' (nextB EE.out.below hb) g0 cap hsl⟩
              iterate 5 refine OblS.val (by kernel_rfl) (fun w' _ _ => (by kernel_rfl)) ?_
              apply OblS.nil
              apply hK
              intro w6 hb hH
              clear hH hK K
              simp only [Act.put, List.setIfInBounds_toArray, List.set_cons_zero, List.set_cons_succ, List.drop_succ_cons, List.drop_zero]
              replace EE := Lib.hid (EE.out.keep hb); replace ct := EE.out.tab.cell; replace cm := EE.out.man.cell; replace co := EE.out.st.cell; replace XX := Lib.hid (XX.out.after hb); replace cx := XX.out.cell; clear hb
              go_wp2_with (first
                | (go_at_call 15; refine (knownLaw_c _).mono ?_; rintro e w15 ⟨rfl, hb⟩; have HB := Lib.hid (nextB EE.out.below hb); clear hb))
              exact bodyPost_ret (results_tmp rfl _ _ _) rfl ⟨rfl, HB.out⟩
            · rcases hcmp rfl with hlt | ⟨heq, hle⟩
              · obtain ⟨pA, sA, rA, pn, pc, sn, sc, rn, rc, ps, ss, rs⟩ := t
                simp only [Tm.tab, Tm.man] at *
                go_enter Tryz.func3, Tryz.ntmps3
                go_wp2_with (first
                  | (go_at_call 13; refine (HSh.out _).mono ?_; rintro e w13 ⟨rfl, hb⟩; have EE := Lib.hid (E0.out.keep hb); have ct := EE.out.tab.cell; have cm := EE.out.man.cell; have co := EE.out.st.cell; clear hb)
                  | (go_at_call 14; refine (HFi.out _ EE.out.below).mono ?_; rintro e w14 ⟨rfl, hb⟩; replace EE := Lib.hid (EE.out.keep hb); replace ct := EE.out.tab.cell; replace cm := EE.out.man.cell; replace co := EE.out.st.cell; clear hb)
                  | (go_at_call 16; refine (HSt.out _ EE.out.below).mono ?_; rintro e w16 ⟨rfl, hb⟩; replace EE := Lib.hid (EE.out.keep hb); replace ct := EE.out.tab.cell; replace cm := EE.out.man.cell; replace co := EE.out.st.cell; clear hb)
                  | (refine wpList_store_all rfl 31 _ _ rfl w16.heap.size rfl _ rfl 31 _ (Has.new w16 31 _) (by kernel_rfl) rfl (by simp [Value.oneCell']) ?_; have hb := box_below (W := w16) #[.int .i64 0, .int .i64 0] #[.int .i64 sd, .int .i64 sm] 31; have XX := Lib.hid (box_has (W := w16) #[.int .i64 0, .int .i64 0] #[.int .i64 sd, .int .i64 sm] 31); have cx := XX.out.cell; replace EE := Lib.hid (EE.out.keep hb); replace ct := EE.out.tab.cell; replace cm := EE.out.man.cell; replace co := EE.out.st.cell; clear hb)
                  | (go_at_call 17; refine (HSu.out _ EE.out.below).mono ?_; rintro e w17 ⟨rfl, hb⟩; replace EE := Lib.hid (EE.out.keep hb); replace XX := Lib.hid (XX.out.after hb); replace cx := XX.out.cell; replace ct := EE.out.tab.cell; replace cm := EE.out.man.cell; replace co := EE.out.st.cell; clear hb)
                  | (go_at_call 18; refine (HLo.out _ EE.out.below).mono ?_; rintro e w18 ⟨rfl, hb⟩; replace EE := Lib.hid (EE.out.keep hb); replace XX := Lib.hid (XX.out.after hb); replace cx := XX.out.cell; replace ct := EE.out.tab.cell; replace cm := EE.out.man.cell; replace co := EE.out.st.cell; clear hb)
                  | (go_at_call 15; refine (knownLaw_c _).mono ?_; rintro e w15 ⟨rfl, hb⟩; have HB := Lib.hid (nextB EE.out.below hb); clear hb))
                apply wp_loose 11 (.v (.agg #[.slice pA pn pc, .slice sA sn sc]) :: .v (.agg #[.slice rA rn rc]) :: .v (.slice A n c) :: .v (.agg #[.int .i64 sd, .int .i64 sm]) :: .r (fun v w' => ∃ g0 cap, v = .slice (some ⟨g0, 0, none⟩) (n + 1) cap ∧ SlOf St.cs 4 w' (some ⟨g0, 0, none⟩) (n + 1) (dive ++ [stayS sd sd sm])) :: .v (.tuple #[.bool true, .int .i64 0]) :: .v (.tuple #[.bool true, .int .i64 0]) :: .v (.bool true) :: .v (.int .i64 0) :: .v (.bool true) :: .v (.int .i64 0) :: []) (by kernel_rfl) (by kernel_rfl) (by kernel_rfl) (by decide) rfl
                intro K hK
                refine OblS.row rfl 25 (.tmp 4) rfl w.heap.size (by kernel_rfl) 25 _ _ EE.out.tab Tryz.underlying25 rfl (by kernel_rfl) ?_
                refine OblS.row rfl 28 (.tmp 5) rfl (w.heap.size + 1) (by kernel_rfl) 28 _ _ EE.out.man Tryz.underlying28 rfl (by kernel_rfl) ?_
                refine OblS.val (by kernel_rfl) (fun w' _ _ => (by kernel_rfl)) ?_
                refine OblS.row rfl 31 (.tmp 9) rfl w16.heap.size (by kernel_rfl) 31 _ _ XX.out Tryz.underlying31 rfl (by kernel_rfl) ?_
                refine OblS.callR 19 (by rintro v x y ⟨g0, cap, e, h⟩ hb; exact ⟨g0, cap, e, h.keep hb⟩) (by kernel_rfl) (fun w' hb _ => ⟨#[.slice A n c, .agg #[.int .i64 sd, .int .i64 sm]], (by kernel_rfl), (HSp.out _ _ w' (nextB EE.out.below hb)).mono fun e x ⟨g0, cap, h1, h2, h3⟩ => ⟨_, h1, ⟨g0, cap, rfl, h2⟩, h3⟩⟩) ?_
                intro vs
                refine OblS.call 17 (by kernel_rfl) (fun w' hb hH => ?_) ?_
                · obtain ⟨g0, cap, rfl, hsl⟩ := hH _ (List.mem_cons_self ..) (by kernel_rfl)
                  exact ⟨#[.agg #[.slice pA pn pc, .slice sA sn sc], .agg #[.slice rA rn rc], .slice (some ⟨g0, 0, none⟩) (n + 1) cap], (by kernel_rfl), HS0.out w' (nextB EE.out.below hb) g0 cap hsl⟩
                iterate 5 refine OblS.val (by kernel_rfl) (fun w' _ _ => (by kernel_rfl)) ?_
                apply OblS.nil
                apply hK
                intro w6 hb hH
                clear hH hK K
                simp only [Act.put, List.setIfInBounds_toArray, List.set_cons_zero, List.set_cons_succ, List.drop_succ_cons, List.drop_zero]
                replace EE := Lib.hid (EE.out.keep hb); replace ct := EE.out.tab.cell; replace cm := EE.out.man.cell; replace co := EE.out.st.cell; replace XX := Lib.hid (XX.out.after hb); replace cx := XX.out.cell; clear hb
                go_wp2_with (first
                  | (go_at_call 18; refine (HLs.out _ EE.out.below).mono ?_; rintro e w18 ⟨rfl, hb⟩; replace EE := Lib.hid (EE.out.keep hb); replace XX := Lib.hid (XX.out.after hb); replace cx := XX.out.cell; replace ct := EE.out.tab.cell; replace cm := EE.out.man.cell; replace co := EE.out.st.cell; clear hb)
                  | (go_at_call 15; refine (knownLaw_c _).mono ?_; rintro e w15 ⟨rfl, hb⟩; have HB := Lib.hid (nextB EE.out.below hb); clear hb))
                apply wp_loose 11 (.v (.agg #[.slice pA pn pc, .slice sA sn sc]) :: .v (.agg #[.slice rA rn rc]) :: .v (.slice A n c) :: .v (.agg #[.int .i64 a, .int .i64 b]) :: .r (fun v w' => ∃ g0 cap, v = .slice (some ⟨g0, 0, none⟩) (n + 1) cap ∧ SlOf St.cs 4 w' (some ⟨g0, 0, none⟩) (n + 1) (dive ++ [stayS a a b])) :: .v (.tuple #[.bool true, .int .i64 0]) :: .v (.tuple #[.bool true, .int .i64 0]) :: .v (.bool true) :: .v (.int .i64 0) :: .v (.bool true) :: .v (.int .i64 0) :: []) (by kernel_rfl) (by kernel_rfl) (by kernel_rfl) (by decide) rfl
                intro K hK
                refine OblS.row rfl 25 (.tmp 4) rfl w.heap.size (by kernel_rfl) 25 _ _ EE.out.tab Tryz.underlying25 rfl (by kernel_rfl) ?_
                refine OblS.row rfl 28 (.tmp 5) rfl (w.heap.size + 1) (by kernel_rfl) 28 _ _ EE.out.man Tryz.underlying28 rfl (by kernel_rfl) ?_
                refine OblS.val (by kernel_rfl) (fun w' _ _ => (by kernel_rfl)) ?_
                refine OblS.row rfl 31 (.tmp 7) rfl (w.heap.size + 1 + 1) (by kernel_rfl) 31 _ _ EE.out.st Tryz.underlying31 rfl (by kernel_rfl) ?_
                refine OblS.callR 19 (by rintro v x y ⟨g0, cap, e, h⟩ hb; exact ⟨g0, cap, e, h.keep hb⟩) (by kernel_rfl) (fun w' hb _ => ⟨#[.slice A n c, .agg #[.int .i64 a, .int .i64 b]], (by kernel_rfl), (HSp.out _ _ w' (nextB EE.out.below hb)).mono fun e x ⟨g0, cap, h1, h2, h3⟩ => ⟨_, h1, ⟨g0, cap, rfl, h2⟩, h3⟩⟩) ?_
                intro vs
                refine OblS.call 17 (by kernel_rfl) (fun w' hb hH => ?_) ?_
                · obtain ⟨g0, cap, rfl, hsl⟩ := hH _ (List.mem_cons_self ..) (by kernel_rfl)
                  exact ⟨#[.agg #[.slice pA pn pc, .slice sA sn sc], .agg #[.slice rA rn rc], .slice (some ⟨g0, 0, none⟩) (n + 1) cap], (by kernel_rfl), HS1.out w' (nextB EE.out.below hb) g0 cap hsl⟩
                iterate 5 refine OblS.val (by kernel_rfl) (fun w' _ _ => (by kernel_rfl)) ?_
                apply OblS.nil
                apply hK
                intro w6 hb hH
                clear hH hK K
                simp only [Act.put, List.setIfInBounds_toArray, List.set_cons_zero, List.set_cons_succ, List.drop_succ_cons, List.drop_zero]
                replace EE := Lib.hid (EE.out.keep hb); replace ct := EE.out.tab.cell; replace cm := EE.out.man.cell; replace co := EE.out.st.cell; replace XX := Lib.hid (XX.out.after hb); replace cx := XX.out.cell; clear hb
                go_wp2_with (first
                  | (go_at_call 15; refine (knownLaw_c _).mono ?_; rintro e w15 ⟨rfl, hb⟩; have HB := Lib.hid (nextB EE.out.below hb); clear hb))
                exact bodyPost_ret (results_tmp rfl _ _ _) rfl ⟨rfl, HB.out⟩
              · subst heq
                obtain ⟨pA, sA, rA, pn, pc, sn, sc, rn, rc, ps, ss, rs⟩ := t
                simp only [Tm.tab, Tm.man] at *
                go_enter Tryz.func3, Tryz.ntmps3
                go_wp2_with (first
                  | (go_at_call 13; refine (HSh.out _).mono ?_; rintro e w13 ⟨rfl, hb⟩; have EE := Lib.hid (E0.out.keep hb); have ct := EE.out.tab.cell; have cm := EE.out.man.cell; have co := EE.out.st.cell; clear hb)
                  | (go_at_call 14; refine (HFi.out _ EE.out.below).mono ?_; rintro e w14 ⟨rfl, hb⟩; replace EE := Lib.hid (EE.out.keep hb); replace ct := EE.out.tab.cell; replace cm := EE.out.man.cell; replace co := EE.out.st.cell; clear hb)
                  | (go_at_call 16; refine (HSt.out _ EE.out.below).mono ?_; rintro e w16 ⟨rfl, hb⟩; replace EE := Lib.hid (EE.out.keep hb); replace ct := EE.out.tab.cell; replace cm := EE.out.man.cell; replace co := EE.out.st.cell; clear hb)
                  | (refine wpList_store_all rfl 31 _ _ rfl w16.heap.size rfl _ rfl 31 _ (Has.new w16 31 _) (by kernel_rfl) rfl (by simp [Value.oneCell']) ?_; have hb := box_below (W := w16) #[.int .i64 0, .int .i64 0] #[.int .i64 sd, .int .i64 sm] 31; have XX := Lib.hid (box_has (W := w16) #[.int .i64 0, .int .i64 0] #[.int .i64 sd, .int .i64 sm] 31); have cx := XX.out.cell; replace EE := Lib.hid (EE.out.keep hb); replace ct := EE.out.tab.cell; replace cm := EE.out.man.cell; replace co := EE.out.st.cell; clear hb)
                  | (go_at_call 17; refine (HSu.out _ EE.out.below).mono ?_; rintro e w17 ⟨rfl, hb⟩; replace EE := Lib.hid (EE.out.keep hb); replace XX := Lib.hid (XX.out.after hb); replace cx := XX.out.cell; replace ct := EE.out.tab.cell; replace cm := EE.out.man.cell; replace co := EE.out.st.cell; clear hb)
                  | (go_at_call 18; refine (HLo.out _ EE.out.below).mono ?_; rintro e w18 ⟨rfl, hb⟩; replace EE := Lib.hid (EE.out.keep hb); replace XX := Lib.hid (XX.out.after hb); replace cx := XX.out.cell; replace ct := EE.out.tab.cell; replace cm := EE.out.man.cell; replace co := EE.out.st.cell; clear hb)
                  | (go_at_call 15; refine (knownLaw_c _).mono ?_; rintro e w15 ⟨rfl, hb⟩; have HB := Lib.hid (nextB EE.out.below hb); clear hb))
                apply wp_loose 11 (.v (.agg #[.slice pA pn pc, .slice sA sn sc]) :: .v (.agg #[.slice rA rn rc]) :: .v (.slice A n c) :: .v (.agg #[.int .i64 sd, .int .i64 sm]) :: .r (fun v w' => ∃ g0 cap, v = .slice (some ⟨g0, 0, none⟩) (n + 1) cap ∧ SlOf St.cs 4 w' (some ⟨g0, 0, none⟩) (n + 1) (dive ++ [stayS sd sd sm])) :: .v (.tuple #[.bool true, .int .i64 0]) :: .v (.tuple #[.bool true, .int .i64 0]) :: .v (.bool true) :: .v (.int .i64 0) :: .v (.bool true) :: .v (.int .i64 0) :: []) (by kernel_rfl) (by kernel_rfl) (by kernel_rfl) (by decide) rfl
                intro K hK
                refine OblS.row rfl 25 (.tmp 4) rfl w.heap.size (by kernel_rfl) 25 _ _ EE.out.tab Tryz.underlying25 rfl (by kernel_rfl) ?_
                refine OblS.row rfl 28 (.tmp 5) rfl (w.heap.size + 1) (by kernel_rfl) 28 _ _ EE.out.man Tryz.underlying28 rfl (by kernel_rfl) ?_
                refine OblS.val (by kernel_rfl) (fun w' _ _ => (by kernel_rfl)) ?_
                refine OblS.row rfl 31 (.tmp 9) rfl w16.heap.size (by kernel_rfl) 31 _ _ XX.out Tryz.underlying31 rfl (by kernel_rfl) ?_
                refine OblS.callR 19 (by rintro v x y ⟨g0, cap, e, h⟩ hb; exact ⟨g0, cap, e, h.keep hb⟩) (by kernel_rfl) (fun w' hb _ => ⟨#[.slice A n c, .agg #[.int .i64 sd, .int .i64 sm]], (by kernel_rfl), (HSp.out _ _ w' (nextB EE.out.below hb)).mono fun e x ⟨g0, cap, h1, h2, h3⟩ => ⟨_, h1, ⟨g0, cap, rfl, h2⟩, h3⟩⟩) ?_
                intro vs
                refine OblS.call 17 (by kernel_rfl) (fun w' hb hH => ?_) ?_
                · obtain ⟨g0, cap, rfl, hsl⟩ := hH _ (List.mem_cons_self ..) (by kernel_rfl)
                  exact ⟨#[.agg #[.slice pA pn pc, .slice sA sn sc], .agg #[.slice rA rn rc], .slice (some ⟨g0, 0, none⟩) (n + 1) cap], (by kernel_rfl), HS0.out w' (nextB EE.out.below hb) g0 cap hsl⟩
                iterate 5 refine OblS.val (by kernel_rfl) (fun w' _ _ => (by kernel_rfl)) ?_
                apply OblS.nil
                apply hK
                intro w6 hb hH
                clear hH hK K
                simp only [Act.put, List.setIfInBounds_toArray, List.set_cons_zero, List.set_cons_succ, List.drop_succ_cons, List.drop_zero]
                replace EE := Lib.hid (EE.out.keep hb); replace ct := EE.out.tab.cell; replace cm := EE.out.man.cell; replace co := EE.out.st.cell; replace XX := Lib.hid (XX.out.after hb); replace cx := XX.out.cell; clear hb
                go_wp2_with (first
                  | (go_at_call 18; refine (HLs.out _ EE.out.below).mono ?_; rintro e w18 ⟨rfl, hb⟩; replace EE := Lib.hid (EE.out.keep hb); replace XX := Lib.hid (XX.out.after hb); replace cx := XX.out.cell; replace ct := EE.out.tab.cell; replace cm := EE.out.man.cell; replace co := EE.out.st.cell; clear hb)
                  | (go_at_call 15; refine (knownLaw_c _).mono ?_; rintro e w15 ⟨rfl, hb⟩; have HB := Lib.hid (nextB EE.out.below hb); clear hb))
                apply wp_loose 11 (.v (.agg #[.slice pA pn pc, .slice sA sn sc]) :: .v (.agg #[.slice rA rn rc]) :: .v (.slice A n c) :: .v (.agg #[.int .i64 a, .int .i64 sm]) :: .r (fun v w' => ∃ g0 cap, v = .slice (some ⟨g0, 0, none⟩) (n + 1) cap ∧ SlOf St.cs 4 w' (some ⟨g0, 0, none⟩) (n + 1) (dive ++ [stayS a a sm])) :: .v (.tuple #[.bool true, .int .i64 0]) :: .v (.tuple #[.bool true, .int .i64 0]) :: .v (.bool true) :: .v (.int .i64 0) :: .v (.bool true) :: .v (.int .i64 0) :: []) (by kernel_rfl) (by kernel_rfl) (by kernel_rfl) (by decide) rfl
                intro K hK
                refine OblS.row rfl 25 (.tmp 4) rfl w.heap.size (by kernel_rfl) 25 _ _ EE.out.tab Tryz.underlying25 rfl (by kernel_rfl) ?_
                refine OblS.row rfl 28 (.tmp 5) rfl (w.heap.size + 1) (by kernel_rfl) 28 _ _ EE.out.man Tryz.underlying28 rfl (by kernel_rfl) ?_
                refine OblS.val (by kernel_rfl) (fun w' _ _ => (by kernel_rfl)) ?_
                refine OblS.row rfl 31 (.tmp 7) rfl (w.heap.size + 1 + 1) (by kernel_rfl) 31 _ _ EE.out.st Tryz.underlying31 rfl (by kernel_rfl) ?_
                refine OblS.callR 19 (by rintro v x y ⟨g0, cap, e, h⟩ hb; exact ⟨g0, cap, e, h.keep hb⟩) (by kernel_rfl) (fun w' hb _ => ⟨#[.slice A n c, .agg #[.int .i64 a, .int .i64 sm]], (by kernel_rfl), (HSp.out _ _ w' (nextB EE.out.below hb)).mono fun e x ⟨g0, cap, h1, h2, h3⟩ => ⟨_, h1, ⟨g0, cap, rfl, h2⟩, h3⟩⟩) ?_
                intro vs
                refine OblS.call 17 (by kernel_rfl) (fun w' hb hH => ?_) ?_
                · obtain ⟨g0, cap, rfl, hsl⟩ := hH _ (List.mem_cons_self ..) (by kernel_rfl)
                  exact ⟨#[.agg #[.slice pA pn pc, .slice sA sn sc], .agg #[.slice rA rn rc], .slice (some ⟨g0, 0, none⟩) (n + 1) cap], (by kernel_rfl), HS1.out w' (nextB EE.out.below hb) g0 cap hsl⟩
                iterate 5 refine OblS.val (by kernel_rfl) (fun w' _ _ => (by kernel_rfl)) ?_
                apply OblS.nil
                apply hK
                intro w6 hb hH
                clear hH hK K
                simp only [Act.put, List.setIfInBounds_toArray, List.set_cons_zero, List.set_cons_succ, List.drop_succ_cons, List.drop_zero]
                replace EE := Lib.hid (EE.out.keep hb); replace ct := EE.out.tab.cell; replace cm := EE.out.man.cell; replace co := EE.out.st.cell; replace XX := Lib.hid (XX.out.after hb); replace cx := XX.out.cell; clear hb
                go_wp2_with (first
                  | (go_at_call 15; refine (knownLaw_c _).mono ?_; rintro e w15 ⟨rfl, hb⟩; have HB := Lib.hid (nextB EE.out.below hb); clear hb))
                exact bodyPost_ret (results_tmp rfl _ _ _) rfl ⟨rfl, HB.out⟩
      · have hn4' : 4 ≤ n := by omega
        clear hs hi hd hA hsm hdb hn4
        obtain ⟨pA, sA, rA, pn, pc, sn, sc, rn, rc, ps, ss, rs⟩ := t
        simp only [Tm.tab, Tm.man] at *
        go_enter Tryz.func3, Tryz.ntmps3
        go_wp2_with (first
          | (go_at_call 13; refine (HSh.out _).mono ?_; rintro e w13 ⟨rfl, hb⟩; have EE := Lib.hid (E0.out.keep hb); have ct := EE.out.tab.cell; have cm := EE.out.man.cell; have co := EE.out.st.cell; clear hb)
          | (go_at_call 14; refine (HFi.out _ EE.out.below).mono ?_; rintro e w14 ⟨rfl, hb⟩; replace EE := Lib.hid (EE.out.keep hb); replace ct := EE.out.tab.cell; replace cm := EE.out.man.cell; replace co := EE.out.st.cell; clear hb)
          | (go_at_call 15; refine (knownLaw_c _).mono ?_; rintro e w15 ⟨rfl, hb⟩; have HB := Lib.hid (nextB EE.out.below hb); clear hb))
        exact bodyPost_ret (results_tmp rfl _ _ _) rfl ⟨rfl, HB.out⟩
end Go.Proofs
namespace Go.Proofs.YtahochgbkhpefabGreatDoor.gasHelped
open Go.ChangeShapes Go.WideShapes Go.ChangeAt Go.RowKit Go.Proofs

theorem own : ownKnob Tryz.prog.godebug = none := by kernel_rfl
theorem laidOut : laidOutB Tryz.prog = true := by kernel_rfl
theorem door_met (os : Os) (args : Array Value) : laidMetH Tryz.prog Rows.gasHelpedRow.laid ((World.doorLaid Tryz.prog 400 os).forCall (fun _ _ => 0) ⟨#[], args, []⟩).memory :=
  laidMetH_of_parts3 (fuel := 8) (laidMet_of_run' 8 (by kernel_rfl) (by kernel_rfl)) (by kernel_rfl) (by kernel_rfl)

set_option maxRecDepth 100000 in
theorem lifted (os : Os) (started : os.Started) (H : Type) (enc : TypeId × Value → H) :
    ReturnsInHanded {} Tryz.checked os 3 .any (fun w args => (Rows.gasHelpedSpec.pre enc Tryz.prog Tryz.f3 [] false w args ∧ laidMetH Tryz.prog Rows.gasHelpedRow.laid w) ∧ sizedMet enc Tryz.prog Tryz.f3 (OpenSpec.ofChange Rows.gasHelpedSpec) false w args)
      (Rows.gasHelpedSpec.post enc Tryz.prog Tryz.f3 false true false false) := by
  refine returnsInHanded_of_change_and (C := Tryz.checked) (X := fun w _ => laidMetH Tryz.prog Rows.gasHelpedRow.laid w) (fun _ _ _ hh h => h.of_heap hh) own started (by kernel_rfl) Tryz.func3
    (ChangeSpec.witness_shaped (enc := enc) (C := Tryz.checked) (os := os) (X := fun w _ => laidMetH Tryz.prog Rows.gasHelpedRow.laid w) false (World.doorLaid Tryz.prog 400 os) #[.agg #[.slice none 0 0, .slice none 0 0], .agg #[.slice none 0 0], .slice none 0 0, .agg #[.int .i64 0, .int .i64 0]] 8 rfl (World.shaped_of_RefB (by kernel_rfl) (by kernel_rfl)) (by kernel_rfl) (by kernel_rfl) (by kernel_rfl) (door_met os _)) ?_
  intro W base args ds gs before hval0 hW _ _ hL _
  have hval : ∀ (j : Nat) t v, Tryz.f3.params[j]? = some t → args[j]? = some v → Value.okWide Tryz.prog W .any base t v := hval0
  have hW' := hW
  obtain ⟨p, q, hA0, hV, rfl, hfz, hnd⟩ := hW
  have hA : DataW.TrodAll enc Tryz.prog W 0 (fun _ => true) true Tryz.f3.params.toList args.toList ds p := hA0
  rw [Tryz.params3] at hA hval
  obtain ⟨v0, vs0, d0, ds0, p0, q0, hargs, rfl, rfl, h0, r0⟩ := trodAll_cons hA
  obtain ⟨v1, vs1, d1, ds1, p1, q1, rfl, rfl, rfl, h1, r1⟩ := trodAll_cons r0
  obtain ⟨v2, vs2, d2, ds2, p2, q2, rfl, rfl, rfl, h2, r2⟩ := trodAll_cons r1
  obtain ⟨v3, vs3, d3, ds3, p3, q3, rfl, rfl, rfl, h3, r3⟩ := trodAll_cons r2
  obtain ⟨rfl, rfl, rfl⟩ := trodAll_nil r3
  obtain rfl : args = #[v0, v1, v2, v3] := by cases args; simp_all
  obtain ⟨rfl, rfl⟩ := trodVars_none hV
  have k0 := h0
  have lt0 : ∀ x ∈ p0, x.block < W.heap.size := by obtain ⟨m, hm⟩ := k0; exact DataW.trod_lt m _ _ _ hm
  have u0 := hval 0 25 v0 rfl rfl
  obtain ⟨pA, pn, pc, ps, sA, sn, sc, ss, rfl, hP, hS⟩ := arg_table u0 h0
  have k1 := h1
  have lt1 : ∀ x ∈ p1, x.block < W.heap.size := by obtain ⟨m, hm⟩ := k1; exact DataW.trod_lt m _ _ _ hm
  have u1 := hval 1 28 v1 rfl rfl
  obtain ⟨rA, rn, rc, rs, rfl, hR⟩ := arg_man u1 h1
  have k2 := h2
  have lt2 : ∀ x ∈ p2, x.block < W.heap.size := by obtain ⟨m, hm⟩ := k2; exact DataW.trod_lt m _ _ _ hm
  have u2 := hval 2 29 v2 rfl rfl
  obtain ⟨A2, n2, c2, l2, rfl, hd2, hc2, hm2, hA2⟩ := arg_dive u2 h2
  have k3 := h3
  have lt3 : ∀ x ∈ p3, x.block < W.heap.size := by obtain ⟨m, hm⟩ := k3; exact DataW.trod_lt m _ _ _ hm
  have u3 := hval 3 31 v3 rfl rfl
  obtain ⟨a3, b3, rfl, w3, x3⟩ := arg_stop u3 h3
  clear hA0 hval0
  simp only [List.append_nil] at hW'
  refine (gasHelped_walk ⟨pA, sA, rA, pn, pc, sn, sc, rn, rc, ps, ss, rs⟩ A2 n2 c2 l2 hA2 a3 b3 W ⟨hP, hS, hR⟩ hd2).mono fun e W' ⟨he, bel⟩ => ?_
  subst he
  exact ⟨_, rfl, _, _, _, [], _, [], hW', trodAll_mk1 (shut_bool Tryz.underlying4 _), (trodAll_cons_mk (Below.trod laidOut (by kernel_rfl) (of_decide_eq_true (by kernel_rfl)) k0 bel lt0) (trodAll_cons_mk (Below.trod laidOut (by kernel_rfl) (of_decide_eq_true (by kernel_rfl)) k1 bel lt1) (trodAll_cons_mk (Below.trod laidOut (by kernel_rfl) (of_decide_eq_true (by kernel_rfl)) k2 bel lt2) (trodAll_cons_mk (Below.trod laidOut (by kernel_rfl) (of_decide_eq_true (by kernel_rfl)) k3 bel lt3) trodAll_mk0)))), rfl, bel.frame _, fun h => by cases h⟩

theorem row_holds : Rows.GasHelpedSaid :=
  OpenClaim.holds_of_wide 3 Tryz.f3 rfl rfl rfl rfl rfl rfl rfl ⟨rfl, rfl, rfl, rfl, rfl⟩ rfl rfl rfl rfl rfl (by kernel_rfl) Tryz.func3 (by kernel_rfl)
    (of_decide_eq_true (by kernel_rfl)) (by unfold Func.isWrapper; first | (rw [if_pos (by decide +kernel)]; kernel_rfl) | (rw [if_neg (by decide +kernel)]; exact ⟨rfl, rfl⟩))
    (fun os started H enc _ => lifted os started H enc)

theorem gasHelped_holds : Rows.GasHelpedCardSaid :=
  Claim7.holds_tied_plain_at .later [] [.data, .data, .data] true (true, "4fc05ff97337c211e58e94116c1afb33103fda01ac6f5a8902717e04a03fffff") true
    row_holds (fun _ h => by cases h) (by kernel_rfl) (fun _ h => by cases h) gasHelped_row_tie rfl ⟨rfl, rfl⟩ (by kernel_rfl) rfl
    (fun f fn hf hfn => by
      obtain rfl : f = 3 := Option.some.inj ((show Tryz.prog.funcNamed "bathyal/bathyallaw02.GasHelped" = some 3 by kernel_rfl).symm.trans hf) |>.symm
      obtain rfl : fn = Tryz.f3 := (Option.some.inj (Tryz.func3.symm.trans hfn)).symm
      exact ⟨by kernel_rfl, fun j t ht => by
        rw [Tryz.params3] at ht
        have hm : t ∈ [25, 28, 29, 31] := by simpa using Array.mem_of_getElem? ht
        have hall : ([25, 28, 29, 31].all fun u => !Tryz.prog.wantsStandIn u) = true := by kernel_rfl
        exact (show Tryz.prog.wantsStandIn t = false by simpa using List.all_eq_true.1 hall t hm)⟩)
    (by kernel_rfl)
#print axioms gasHelped_holds
end Go.Proofs.YtahochgbkhpefabGreatDoor.gasHelped
