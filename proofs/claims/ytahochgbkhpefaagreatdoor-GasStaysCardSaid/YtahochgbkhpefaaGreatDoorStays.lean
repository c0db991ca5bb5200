/-
  The statement GasStays holds for every input: the law returns true and what came in reads as before.
-/
import Derived.Test.YtahochgbkhpefaaGreatDoorP12
import Derived.Test.YtahochgbkhpefaaGreatDoorP9
import Derived.Test.YtahochgbkhpefaaGreatDoorP11
import Derived.Test.YtahochgbkhpefaaGreatDoorRows
import Derived.Test.YtahochgbkhpefaaGreatDoorTie
import Derived.Test.YtahochgbkhpefaaGreatDoorCards
import Derived.Test.YtahochgbkhpefaaGreatDoorChecked
import Derived.ProofKit
import Derived.OpenShut
import Derived.LaidMore
import Derived.Stop.Joined
import Derived.SevenTiedAt
import Derived.Carry
namespace Go.Proofs
open Go.RowKit Go.Shelf Gas
attribute [local go_sem ↓] Go.wp_at_zero Go.wp_at_succ

/-- The boxes of a table, a man and a span, as a law lays them first. -/
structure Bx (w : World) (t : Tm) (l g : Int) (W : World) : Prop where
  below : Below w.heap.size w W
  tab : Has W w.heap.size 50 #[.slice t.pA t.pn t.pc, .slice t.sA t.sn t.sc]
  man : Has W (w.heap.size + 1) 53 #[.slice t.rA t.rn t.rc]
  sp : Has W (w.heap.size + 1 + 1) 24 #[.int .i64 l, .int .i64 g]
theorem Bx.keep {w W W' : World} {t : Tm} {l g : Int} (h : Bx w t l g W) (hb : Below W.heap.size W W') : Bx w t l g W' := ⟨nextB h.below hb, h.tab.after hb, h.man.after hb, h.sp.after hb⟩
theorem Bx.start (w : World) (t : Tm) (l g : Int) : Bx w t l g (((w.alloc (.cells #[.slice t.pA t.pn t.pc, .slice t.sA t.sn t.sc] 50)).alloc (.cells #[.slice t.rA t.rn t.rc] 53)).alloc (.cells #[.int .i64 l, .int .i64 g] 24)) :=
  ⟨newB (newB (newB (Below.refl _ _) _) _) _, ((Has.new w 50 _).alloc _).alloc _, (Has.new' _ 53 _ (by simp)).alloc _, Has.new' _ 24 _ (by simp)⟩

set_option maxHeartbeats 2000000 in
set_option maxRecDepth 50000 in
theorem gasStays_walk (t : Tm) (l g a3 a4 a5 : Int) (w : World) (hi : t.In w) :
    Calls Tryz.prog 13 #[t.tab, t.man, .agg #[.int .i64 l, .int .i64 g], .int .i64 a3, .int .i64 a4, .int .i64 a5] w fun e w' => e = .returned (.bool true) ∧ Below w.heap.size w w' := by
  have HSh := Lib.hid fun (W : World) => short_c t none 0 0 W
  have E0 := Lib.hid (Bx.start w t l g)
  cases hs : shortB t 0
  · rw [hs] at HSh
    clear hs hi
    obtain ⟨pA, sA, rA, pn, pc, sn, sc, rn, rc, ps, ss, rs⟩ := t
    simp only [Tm.tab, Tm.man] at *
    go_enter Tryz.func13, Tryz.ntmps13
    go_wp2_with (first
      | (go_at_call 26; refine (HSh.out _).mono ?_; rintro e w1 ⟨rfl, hb⟩; have EE := Lib.hid (E0.out.keep hb); clear hb)
      | (go_at_call 15; refine (knownLaw_c _).mono ?_; rintro e w2 ⟨rfl, hb⟩; have HB := Lib.hid (nextB EE.out.below hb); clear hb))
    exact bodyPost_ret (results_tmp rfl _ _ _) rfl ⟨rfl, HB.out⟩
  · rw [hs] at HSh
    obtain ⟨hsm, _⟩ := short_small hs
    have HFi := Lib.hid fun (W : World) (hb : Below w.heap.size w W) => fine_c t hsm none 0 0 [] (by omega) W (hi.keep hb) (SlOf.nil _ _ _)
    have HFa := Lib.hid fun (W : World) => fathoms_c l g W
    cases hd : definedB t.ps t.ss t.rs [] 0
    · rw [hd] at HFi
      clear hs hi hsm hd
      obtain ⟨pA, sA, rA, pn, pc, sn, sc, rn, rc, ps, ss, rs⟩ := t
      simp only [Tm.tab, Tm.man] at *
      go_enter Tryz.func13, Tryz.ntmps13
      go_wp2_with (first
        | (go_at_call 26; refine (HSh.out _).mono ?_; rintro e w1 ⟨rfl, hb⟩; have EE := Lib.hid (E0.out.keep hb); have ct := EE.out.tab.cell; have cm := EE.out.man.cell; have cs := EE.out.sp.cell; clear hb)
        | (go_at_call 32; refine (HFi.out _ EE.out.below).mono ?_; rintro e w2 ⟨rfl, hb⟩; replace EE := Lib.hid (EE.out.keep hb); replace ct := EE.out.tab.cell; replace cm := EE.out.man.cell; replace cs := EE.out.sp.cell; clear hb)
        | (go_at_call 15; refine (knownLaw_c _).mono ?_; rintro e w9 ⟨rfl, hb⟩; have HB := Lib.hid (nextB EE.out.below hb); clear hb))
      exact bodyPost_ret (results_tmp rfl _ _ _) rfl ⟨rfl, HB.out⟩
    · rw [hd] at HFi
      cases ho : ordB l g 0 40 6
      · rw [ho] at HFa
        clear hs hi hsm hd ho
        obtain ⟨pA, sA, rA, pn, pc, sn, sc, rn, rc, ps, ss, rs⟩ := t
        simp only [Tm.tab, Tm.man] at *
        go_enter Tryz.func13, Tryz.ntmps13
        go_wp2_with (first
          | (go_at_call 26; refine (HSh.out _).mono ?_; rintro e w1 ⟨rfl, hb⟩; have EE := Lib.hid (E0.out.keep hb); have ct := EE.out.tab.cell; have cm := EE.out.man.cell; have cs := EE.out.sp.cell; clear hb)
          | (go_at_call 32; refine (HFi.out _ EE.out.below).mono ?_; rintro e w2 ⟨rfl, hb⟩; replace EE := Lib.hid (EE.out.keep hb); replace ct := EE.out.tab.cell; replace cm := EE.out.man.cell; replace cs := EE.out.sp.cell; clear hb)
          | (go_at_call 50; refine (HFa.out _).mono ?_; rintro e w3 ⟨rfl, hb⟩; replace EE := Lib.hid (EE.out.keep hb); replace ct := EE.out.tab.cell; replace cm := EE.out.man.cell; replace cs := EE.out.sp.cell; clear hb)
          | (go_at_call 15; refine (knownLaw_c _).mono ?_; rintro e w9 ⟨rfl, hb⟩; have HB := Lib.hid (nextB EE.out.below hb); clear hb))
        exact bodyPost_ret (results_tmp rfl _ _ _) rfl ⟨rfl, HB.out⟩
      · rw [ho] at HFa
        by_cases hft : 0 ≤ a4 ∧ a4 ≤ a5 ∧ a5 ≤ 100
        · obtain ⟨f0, f1, f2⟩ := hft
          have ho' := ho
          simp only [ordB, decide_eq_true_eq] at ho'
          obtain ⟨o0, o1, o2, o3⟩ := ho'
          obtain ⟨hok, _, _⟩ := defined_ok hsm hi hd
          have hpl : t.ps.length = t.rs.length := by rw [hi.ps.1, hi.rs.1]; exact hok.np.symm
          have m4 : 0 ≤ (g - l) * a4 ∧ (g - l) * a4 ≤ (g - l) * a5 := ⟨Int.mul_nonneg (by omega) f0, Int.mul_le_mul_of_nonneg_left f1 (by omega)⟩
          have m5 : (g - l) * a5 ≤ (g - l) * 100 := Int.mul_le_mul_of_nonneg_left f2 (by omega)
          obtain ⟨m4a, m4b⟩ := m4
          have e4 : ((g - l) * a4).tdiv 100 = ((g - l) * a4) / 100 := Int.tdiv_eq_ediv_of_nonneg m4a
          have e5 : ((g - l) * a5).tdiv 100 = ((g - l) * a5) / 100 := Int.tdiv_eq_ediv_of_nonneg (by omega)
          have x4 : 0 ≤ ((g - l) * a4).tdiv 100 ∧ ((g - l) * a4).tdiv 100 ≤ ((g - l) * a5).tdiv 100 ∧ ((g - l) * a5).tdiv 100 ≤ g - l := by rw [e4, e5]; omega
          clear e4 e5
          obtain ⟨x4a, x4b, x4c⟩ := x4
          obtain ⟨l', hl'⟩ : ∃ x, x = l + ((g - l) * a4).tdiv 100 := ⟨_, rfl⟩
          obtain ⟨g', hg'⟩ : ∃ x, x = l + ((g - l) * a5).tdiv 100 := ⟨_, rfl⟩
          have ho2 : ordB l' g' 0 40 6 = true := by simp only [ordB, decide_eq_true_eq]; omega
          have hmo := lead_mono (p := limitP t.ps t.rs (h0, true) l g) (q := limitP t.ps t.rs (h0, true) l' g') fun d _ _ h => limitP_mono hok hpl (by omega) (by omega) h
          have hbd := lead_bd (limitP t.ps t.rs (h0, true) l g)
          have hbd2 := lead_bd (limitP t.ps t.rs (h0, true) l' g')
          have htr := fun x (a : 0 ≤ x) b => lead_true (p := limitP t.ps t.rs (h0, true) l g) (x := x) a b
          have hfa := lead_false (p := limitP t.ps t.rs (h0, true) l g)
          obtain ⟨LF, hLF⟩ : ∃ LF, LF = limitF t := ⟨_, rfl⟩
          have L1 : LF l g = (latV (lead (limitP t.ps t.rs (h0, true) l g)), latE (lead (limitP t.ps t.rs (h0, true) l g))) := by rw [hLF]; simp [limitF, hd, ho]
          have L2 : LF l' g' = (latV (lead (limitP t.ps t.rs (h0, true) l' g')), latE (lead (limitP t.ps t.rs (h0, true) l' g'))) := by rw [hLF]; simp [limitF, hd, ho2]
          have HLL := Lib.hid fun (W : World) (hb : Below w.heap.size w W) (x y : Int) => Limit_c t hsm x y W (hi.keep hb)
          rw [← hLF] at HLL
          have HSu0 := fun (d : Int) (h : 0 ≤ d ∧ d ≤ 120) (W : World) (hb : Below w.heap.size w W) (g0 cap : Nat) (hsl : SlOf St.cs 4 W (some ⟨g0, 0, none⟩) 1 [⟨l, g, d, d⟩]) => Surely_c t hsm (some ⟨g0, 0, none⟩) 1 cap [⟨l, g, d, d⟩] (by omega) W (hi.keep hb) hsl
          have HS1 := fun (d : Int) (h : 0 ≤ d ∧ d ≤ 120) => sureF_one (t := t) (l := l) (g := g) (d := d) hd ho h
          clear hs hd ho ho2 hok hpl hi hsm hLF
          generalize limitP t.ps t.rs (h0, true) l g = P at *
          generalize lead P = L at *
          generalize lead (limitP t.ps t.rs (h0, true) l' g') = M at *
          subst hl'; subst hg'
          by_cases hL : L = 0
          · subst hL
            have HSu := Lib.hid (HSu0 0 (by omega))
            rw [HS1 0 (by omega), hfa (by omega)] at HSu
            clear HSu0 HS1 htr hfa hmo
            rw [show latV 0 = 0 from rfl, show latE 0 = 5 from rfl] at L1
            have HE1 := Lib.hid L1
            clear L1
            by_cases hM : M = 0
            · subst hM
              rw [show latV 0 = 0 from rfl, show latE 0 = 5 from rfl] at L2
              have HE2 := Lib.hid L2
              clear L2
              obtain ⟨pA, sA, rA, pn, pc, sn, sc, rn, rc, ps, ss, rs⟩ := t
              simp only [Tm.tab, Tm.man] at *
              go_enter Tryz.func13, Tryz.ntmps13
              go_wp2_with (first
                | (go_at_call 26; refine (HSh.out _).mono ?_; rintro e w1 ⟨rfl, hb⟩; have EE := Lib.hid (E0.out.keep hb); have ct := EE.out.tab.cell; have cm := EE.out.man.cell; have cs := EE.out.sp.cell; clear hb)
                | (go_at_call 32; refine (HFi.out _ EE.out.below).mono ?_; rintro e w2 ⟨rfl, hb⟩; replace EE := Lib.hid (EE.out.keep hb); replace ct := EE.out.tab.cell; replace cm := EE.out.man.cell; replace cs := EE.out.sp.cell; clear hb)
                | (go_at_call 50; refine (HFa.out _).mono ?_; rintro e w3 ⟨rfl, hb⟩; replace EE := Lib.hid (EE.out.keep hb); replace ct := EE.out.tab.cell; replace cm := EE.out.man.cell; replace cs := EE.out.sp.cell; clear hb)
                | (go_at_call 49; refine (HLL.out _ EE.out.below _ _).mono ?_; rintro e w4 ⟨rfl, hb⟩; (first | rw [HE1.out] | rw [HE2.out]); replace EE := Lib.hid (EE.out.keep hb); replace ct := EE.out.tab.cell; replace cm := EE.out.man.cell; replace cs := EE.out.sp.cell; clear hb)
                | (go_at_call 44; refine (span_c _ _ _).mono ?_; rintro e wA ⟨rfl, hb⟩; replace EE := Lib.hid (EE.out.keep hb); replace ct := EE.out.tab.cell; replace cm := EE.out.man.cell; replace cs := EE.out.sp.cell; clear hb)
                | (refine wpList_store_all rfl 24 _ _ rfl wA.heap.size rfl _ rfl 24 _ (Has.new wA 24 _) (by kernel_rfl) rfl (by simp [Value.oneCell']) ?_; have hb := box_below (W := wA) #[.int .i64 0, .int .i64 0] #[.int .i64 (l + ((g - l) * a4).tdiv 100), .int .i64 (l + ((g - l) * a5).tdiv 100)] 24; have XX := Lib.hid (box_has (W := wA) #[.int .i64 0, .int .i64 0] #[.int .i64 (l + ((g - l) * a4).tdiv 100), .int .i64 (l + ((g - l) * a5).tdiv 100)] 24); have cx := XX.out.cell; replace EE := Lib.hid (EE.out.keep hb); replace ct := EE.out.tab.cell; replace cm := EE.out.man.cell; replace cs := EE.out.sp.cell; clear hb)
                | (go_at_call 15; refine (knownLaw_c _).mono ?_; rintro e w9 ⟨rfl, hb⟩; have HB := Lib.hid (nextB EE.out.below hb); clear hb))
              apply wp_loose 13 (.v (.agg #[.slice pA pn pc, .slice sA sn sc]) :: .v (.agg #[.slice rA rn rc]) :: .v (.agg #[.int .i64 l, .int .i64 g]) :: .v (.int .i64 (-1)) :: .v (.int .i64 (0)) :: .v (.agg #[.int .i64 0, .int .i64 0]) :: .r (fun v w' => ∃ g0 cap, v = .slice (some ⟨g0, 0, none⟩) 1 cap ∧ SlOf St.cs 4 w' (some ⟨g0, 0, none⟩) 1 [⟨l, g, 0, 0⟩]) :: .v (.tuple #[.bool false, .int .i64 0]) :: .v (.tuple #[.bool false, .int .i64 0]) :: .v (.bool false) :: .v (.int .i64 0) :: .v (.bool false) :: .v (.int .i64 0) :: []) (by kernel_rfl) (by kernel_rfl) (by kernel_rfl) (by decide) rfl
              intro K hK
              refine OblS.row rfl 50 (.tmp 6) rfl w.heap.size (by kernel_rfl) 50 _ _ EE.out.tab Tryz.underlying50 rfl (by kernel_rfl) ?_
              refine OblS.row rfl 53 (.tmp 7) rfl (w.heap.size + 1) (by kernel_rfl) 53 _ _ EE.out.man Tryz.underlying53 rfl (by kernel_rfl) ?_
              refine OblS.row rfl 24 (.tmp 8) rfl (w.heap.size + 1 + 1) (by kernel_rfl) 24 _ _ EE.out.sp Tryz.underlying24 rfl (by kernel_rfl) ?_
              refine OblS.val (by kernel_rfl) (fun w' _ _ => (by kernel_rfl)) ?_
              refine OblS.val (by kernel_rfl) (fun w' _ _ => (by kernel_rfl)) ?_
              refine OblS.call 24 (by kernel_rfl) (fun w' hb _ => ⟨_, (by kernel_rfl), just1_c _ w'⟩) ?_
              refine OblS.callR 52 (by rintro v x y ⟨g0, cap, e, h⟩ hb; exact ⟨g0, cap, e, h.keep hb⟩) (by kernel_rfl) (fun w' hb _ => ⟨#[.slice none 0 0, .agg #[.int .i64 l, .int .i64 g], .agg #[.int .i64 0, .int .i64 0]], (by kernel_rfl), (More_c none 0 0 [] (fun _ => rfl) (by omega) _ _ _ _ w' (SlOf.nil _ _ _)).mono fun e x ⟨g0, cap, h1, h2, h3⟩ => ⟨_, h1, ⟨g0, cap, rfl, h2⟩, h3⟩⟩) ?_
              intro v6
              refine OblS.call 40 (by kernel_rfl) (fun w' hb hH => ?_) ?_
              · obtain ⟨g0, cap, rfl, hsl⟩ := hH _ (List.mem_cons_self ..) (by kernel_rfl)
                exact ⟨#[.agg #[.slice pA pn pc, .slice sA sn sc], .agg #[.slice rA rn rc], .slice (some ⟨g0, 0, none⟩) 1 cap], (by kernel_rfl), HSu.out w' (nextB EE.out.below hb) g0 cap hsl⟩
              refine OblS.val (by kernel_rfl) (fun w' _ _ => (by kernel_rfl)) ?_
              refine OblS.val (by kernel_rfl) (fun w' _ _ => (by kernel_rfl)) ?_
              refine OblS.val (by kernel_rfl) (fun w' _ _ => (by kernel_rfl)) ?_
              refine OblS.val (by kernel_rfl) (fun w' _ _ => (by kernel_rfl)) ?_
              refine OblS.val (by kernel_rfl) (fun w' _ _ => (by kernel_rfl)) ?_
              apply OblS.nil
              apply hK
              intro w6 hb hH
              clear hH hK K
              simp only [Act.put, List.setIfInBounds_toArray, List.set_cons_zero, List.set_cons_succ, List.drop_succ_cons, List.drop_zero]
              replace EE := Lib.hid (EE.out.keep hb); replace ct := EE.out.tab.cell; replace cm := EE.out.man.cell; replace cs := EE.out.sp.cell; clear hb
              go_wp2_with (first
                | (go_at_call 26; refine (HSh.out _).mono ?_; rintro e w1 ⟨rfl, hb⟩; have EE := Lib.hid (E0.out.keep hb); have ct := EE.out.tab.cell; have cm := EE.out.man.cell; have cs := EE.out.sp.cell; clear hb)
                | (go_at_call 32; refine (HFi.out _ EE.out.below).mono ?_; rintro e w2 ⟨rfl, hb⟩; replace EE := Lib.hid (EE.out.keep hb); replace ct := EE.out.tab.cell; replace cm := EE.out.man.cell; replace cs := EE.out.sp.cell; clear hb)
                | (go_at_call 50; refine (HFa.out _).mono ?_; rintro e w3 ⟨rfl, hb⟩; replace EE := Lib.hid (EE.out.keep hb); replace ct := EE.out.tab.cell; replace cm := EE.out.man.cell; replace cs := EE.out.sp.cell; clear hb)
                | (go_at_call 49; refine (HLL.out _ EE.out.below _ _).mono ?_; rintro e w4 ⟨rfl, hb⟩; (first | rw [HE1.out] | rw [HE2.out]); replace EE := Lib.hid (EE.out.keep hb); replace ct := EE.out.tab.cell; replace cm := EE.out.man.cell; replace cs := EE.out.sp.cell; clear hb)
                | (go_at_call 44; refine (span_c _ _ _).mono ?_; rintro e wA ⟨rfl, hb⟩; replace EE := Lib.hid (EE.out.keep hb); replace ct := EE.out.tab.cell; replace cm := EE.out.man.cell; replace cs := EE.out.sp.cell; clear hb)
                | (refine wpList_store_all rfl 24 _ _ rfl wA.heap.size rfl _ rfl 24 _ (Has.new wA 24 _) (by kernel_rfl) rfl (by simp [Value.oneCell']) ?_; have hb := box_below (W := wA) #[.int .i64 0, .int .i64 0] #[.int .i64 (l + ((g - l) * a4).tdiv 100), .int .i64 (l + ((g - l) * a5).tdiv 100)] 24; have XX := Lib.hid (box_has (W := wA) #[.int .i64 0, .int .i64 0] #[.int .i64 (l + ((g - l) * a4).tdiv 100), .int .i64 (l + ((g - l) * a5).tdiv 100)] 24); have cx := XX.out.cell; replace EE := Lib.hid (EE.out.keep hb); replace ct := EE.out.tab.cell; replace cm := EE.out.man.cell; replace cs := EE.out.sp.cell; clear hb)
                | (go_at_call 15; refine (knownLaw_c _).mono ?_; rintro e w9 ⟨rfl, hb⟩; have HB := Lib.hid (nextB EE.out.below hb); clear hb))
              all_goals exact bodyPost_ret (results_tmp rfl _ _ _) rfl ⟨rfl, HB.out⟩
            · rw [show latV M = M - 1 by simp [latV, hM], show latE M = 0 by simp [latE, hM]] at L2
              have HE2 := Lib.hid L2
              clear L2
              obtain ⟨pA, sA, rA, pn, pc, sn, sc, rn, rc, ps, ss, rs⟩ := t
              simp only [Tm.tab, Tm.man] at *
              go_enter Tryz.func13, Tryz.ntmps13
              go_wp2_with (first
                | (go_at_call 26; refine (HSh.out _).mono ?_; rintro e w1 ⟨rfl, hb⟩; have EE := Lib.hid (E0.out.keep hb); have ct := EE.out.tab.cell; have cm := EE.out.man.cell; have cs := EE.out.sp.cell; clear hb)
                | (go_at_call 32; refine (HFi.out _ EE.out.below).mono ?_; rintro e w2 ⟨rfl, hb⟩; replace EE := Lib.hid (EE.out.keep hb); replace ct := EE.out.tab.cell; replace cm := EE.out.man.cell; replace cs := EE.out.sp.cell; clear hb)
                | (go_at_call 50; refine (HFa.out _).mono ?_; rintro e w3 ⟨rfl, hb⟩; replace EE := Lib.hid (EE.out.keep hb); replace ct := EE.out.tab.cell; replace cm := EE.out.man.cell; replace cs := EE.out.sp.cell; clear hb)
                | (go_at_call 49; refine (HLL.out _ EE.out.below _ _).mono ?_; rintro e w4 ⟨rfl, hb⟩; (first | rw [HE1.out] | rw [HE2.out]); replace EE := Lib.hid (EE.out.keep hb); replace ct := EE.out.tab.cell; replace cm := EE.out.man.cell; replace cs := EE.out.sp.cell; clear hb)
                | (go_at_call 44; refine (span_c _ _ _).mono ?_; rintro e wA ⟨rfl, hb⟩; replace EE := Lib.hid (EE.out.keep hb); replace ct := EE.out.tab.cell; replace cm := EE.out.man.cell; replace cs := EE.out.sp.cell; clear hb)
                | (refine wpList_store_all rfl 24 _ _ rfl wA.heap.size rfl _ rfl 24 _ (Has.new wA 24 _) (by kernel_rfl) rfl (by simp [Value.oneCell']) ?_; have hb := box_below (W := wA) #[.int .i64 0, .int .i64 0] #[.int .i64 (l + ((g - l) * a4).tdiv 100), .int .i64 (l + ((g - l) * a5).tdiv 100)] 24; have XX := Lib.hid (box_has (W := wA) #[.int .i64 0, .int .i64 0] #[.int .i64 (l + ((g - l) * a4).tdiv 100), .int .i64 (l + ((g - l) * a5).tdiv 100)] 24); have cx := XX.out.cell; replace EE := Lib.hid (EE.out.keep hb); replace ct := EE.out.tab.cell; replace cm := EE.out.man.cell; replace cs := EE.out.sp.cell; clear hb)
                | (go_at_call 15; refine (knownLaw_c _).mono ?_; rintro e w9 ⟨rfl, hb⟩; have HB := Lib.hid (nextB EE.out.below hb); clear hb))
              apply wp_loose 13 (.v (.agg #[.slice pA pn pc, .slice sA sn sc]) :: .v (.agg #[.slice rA rn rc]) :: .v (.agg #[.int .i64 l, .int .i64 g]) :: .v (.int .i64 (-1)) :: .v (.int .i64 (0)) :: .v (.agg #[.int .i64 0, .int .i64 0]) :: .r (fun v w' => ∃ g0 cap, v = .slice (some ⟨g0, 0, none⟩) 1 cap ∧ SlOf St.cs 4 w' (some ⟨g0, 0, none⟩) 1 [⟨l, g, 0, 0⟩]) :: .v (.tuple #[.bool false, .int .i64 0]) :: .v (.tuple #[.bool false, .int .i64 0]) :: .v (.bool false) :: .v (.int .i64 0) :: .v (.bool false) :: .v (.int .i64 0) :: []) (by kernel_rfl) (by kernel_rfl) (by kernel_rfl) (by decide) rfl
              intro K hK
              refine OblS.row rfl 50 (.tmp 6) rfl w.heap.size (by kernel_rfl) 50 _ _ EE.out.tab Tryz.underlying50 rfl (by kernel_rfl) ?_
              refine OblS.row rfl 53 (.tmp 7) rfl (w.heap.size + 1) (by kernel_rfl) 53 _ _ EE.out.man Tryz.underlying53 rfl (by kernel_rfl) ?_
              refine OblS.row rfl 24 (.tmp 8) rfl (w.heap.size + 1 + 1) (by kernel_rfl) 24 _ _ EE.out.sp Tryz.underlying24 rfl (by kernel_rfl) ?_
              refine OblS.val (by kernel_rfl) (fun w' _ _ => (by kernel_rfl)) ?_
              refine OblS.val (by kernel_rfl) (fun w' _ _ => (by kernel_rfl)) ?_
              refine OblS.call 24 (by kernel_rfl) (fun w' hb _ => ⟨_, (by kernel_rfl), just1_c _ w'⟩) ?_
              refine OblS.callR 52 (by rintro v x y ⟨g0, cap, e, h⟩ hb; exact ⟨g0, cap, e, h.keep hb⟩) (by kernel_rfl) (fun w' hb _ => ⟨#[.slice none 0 0, .agg #[.int .i64 l, .int .i64 g], .agg #[.int .i64 0, .int .i64 0]], (by kernel_rfl), (More_c none 0 0 [] (fun _ => rfl) (by omega) _ _ _ _ w' (SlOf.nil _ _ _)).mono fun e x ⟨g0, cap, h1, h2, h3⟩ => ⟨_, h1, ⟨g0, cap, rfl, h2⟩, h3⟩⟩) ?_
              intro v6
              refine OblS.call 40 (by kernel_rfl) (fun w' hb hH => ?_) ?_
              · obtain ⟨g0, cap, rfl, hsl⟩ := hH _ (List.mem_cons_self ..) (by kernel_rfl)
                exact ⟨#[.agg #[.slice pA pn pc, .slice sA sn sc], .agg #[.slice rA rn rc], .slice (some ⟨g0, 0, none⟩) 1 cap], (by kernel_rfl), HSu.out w' (nextB EE.out.below hb) g0 cap hsl⟩
              refine OblS.val (by kernel_rfl) (fun w' _ _ => (by kernel_rfl)) ?_
              refine OblS.val (by kernel_rfl) (fun w' _ _ => (by kernel_rfl)) ?_
              refine OblS.val (by kernel_rfl) (fun w' _ _ => (by kernel_rfl)) ?_
              refine OblS.val (by kernel_rfl) (fun w' _ _ => (by kernel_rfl)) ?_
              refine OblS.val (by kernel_rfl) (fun w' _ _ => (by kernel_rfl)) ?_
              apply OblS.nil
              apply hK
              intro w6 hb hH
              clear hH hK K
              simp only [Act.put, List.setIfInBounds_toArray, List.set_cons_zero, List.set_cons_succ, List.drop_succ_cons, List.drop_zero]
              replace EE := Lib.hid (EE.out.keep hb); replace ct := EE.out.tab.cell; replace cm := EE.out.man.cell; replace cs := EE.out.sp.cell; clear hb
              go_wp2_with (first
                | (go_at_call 26; refine (HSh.out _).mono ?_; rintro e w1 ⟨rfl, hb⟩; have EE := Lib.hid (E0.out.keep hb); have ct := EE.out.tab.cell; have cm := EE.out.man.cell; have cs := EE.out.sp.cell; clear hb)
                | (go_at_call 32; refine (HFi.out _ EE.out.below).mono ?_; rintro e w2 ⟨rfl, hb⟩; replace EE := Lib.hid (EE.out.keep hb); replace ct := EE.out.tab.cell; replace cm := EE.out.man.cell; replace cs := EE.out.sp.cell; clear hb)
                | (go_at_call 50; refine (HFa.out _).mono ?_; rintro e w3 ⟨rfl, hb⟩; replace EE := Lib.hid (EE.out.keep hb); replace ct := EE.out.tab.cell; replace cm := EE.out.man.cell; replace cs := EE.out.sp.cell; clear hb)
                | (go_at_call 49; refine (HLL.out _ EE.out.below _ _).mono ?_; rintro e w4 ⟨rfl, hb⟩; (first | rw [HE1.out] | rw [HE2.out]); replace EE := Lib.hid (EE.out.keep hb); replace ct := EE.out.tab.cell; replace cm := EE.out.man.cell; replace cs := EE.out.sp.cell; clear hb)
                | (go_at_call 44; refine (span_c _ _ _).mono ?_; rintro e wA ⟨rfl, hb⟩; replace EE := Lib.hid (EE.out.keep hb); replace ct := EE.out.tab.cell; replace cm := EE.out.man.cell; replace cs := EE.out.sp.cell; clear hb)
                | (refine wpList_store_all rfl 24 _ _ rfl wA.heap.size rfl _ rfl 24 _ (Has.new wA 24 _) (by kernel_rfl) rfl (by simp [Value.oneCell']) ?_; have hb := box_below (W := wA) #[.int .i64 0, .int .i64 0] #[.int .i64 (l + ((g - l) * a4).tdiv 100), .int .i64 (l + ((g - l) * a5).tdiv 100)] 24; have XX := Lib.hid (box_has (W := wA) #[.int .i64 0, .int .i64 0] #[.int .i64 (l + ((g - l) * a4).tdiv 100), .int .i64 (l + ((g - l) * a5).tdiv 100)] 24); have cx := XX.out.cell; replace EE := Lib.hid (EE.out.keep hb); replace ct := EE.out.tab.cell; replace cm := EE.out.man.cell; replace cs := EE.out.sp.cell; clear hb)
                | (go_at_call 15; refine (knownLaw_c _).mono ?_; rintro e w9 ⟨rfl, hb⟩; have HB := Lib.hid (nextB EE.out.below hb); clear hb))
              all_goals exact bodyPost_ret (results_tmp rfl _ _ _) rfl ⟨rfl, HB.out⟩
          · have hM : M ≠ 0 := by omega
            rw [show latV L = L - 1 by simp [latV, hL], show latE L = 0 by simp [latE, hL]] at L1
            rw [show latV M = M - 1 by simp [latV, hM], show latE M = 0 by simp [latE, hM]] at L2
            have HE1 := Lib.hid L1
            have HE2 := Lib.hid L2
            clear L1 L2
            have hw1 : IntKind.i64.wrap L = L := wI (by omega) (by omega)
            have hw2 : IntKind.i64.wrap (L - 1) = L - 1 := wI (by omega) (by omega)
            by_cases h41 : L = 41
            · by_cases h3 : 0 ≤ a3 ∧ a3 ≤ L - 1
              · have HSv := Lib.hid (HSu0 a3 (by omega))
                rw [HS1 a3 (by omega), htr a3 (by omega) (by omega)] at HSv
                obtain ⟨h3a, h3b⟩ := h3
                clear HSu0 HS1 htr hfa
                obtain ⟨pA, sA, rA, pn, pc, sn, sc, rn, rc, ps, ss, rs⟩ := t
                simp only [Tm.tab, Tm.man] at *
                go_enter Tryz.func13, Tryz.ntmps13
                go_wp2_with (first
                  | (go_at_call 26; refine (HSh.out _).mono ?_; rintro e w1 ⟨rfl, hb⟩; have EE := Lib.hid (E0.out.keep hb); have ct := EE.out.tab.cell; have cm := EE.out.man.cell; have cs := EE.out.sp.cell; clear hb)
                  | (go_at_call 32; refine (HFi.out _ EE.out.below).mono ?_; rintro e w2 ⟨rfl, hb⟩; replace EE := Lib.hid (EE.out.keep hb); replace ct := EE.out.tab.cell; replace cm := EE.out.man.cell; replace cs := EE.out.sp.cell; clear hb)
                  | (go_at_call 50; refine (HFa.out _).mono ?_; rintro e w3 ⟨rfl, hb⟩; replace EE := Lib.hid (EE.out.keep hb); replace ct := EE.out.tab.cell; replace cm := EE.out.man.cell; replace cs := EE.out.sp.cell; clear hb)
                  | (go_at_call 49; refine (HLL.out _ EE.out.below _ _).mono ?_; rintro e w4 ⟨rfl, hb⟩; (first | rw [HE1.out] | rw [HE2.out]); replace EE := Lib.hid (EE.out.keep hb); replace ct := EE.out.tab.cell; replace cm := EE.out.man.cell; replace cs := EE.out.sp.cell; clear hb)
                  | (go_at_call 44; refine (span_c _ _ _).mono ?_; rintro e wA ⟨rfl, hb⟩; replace EE := Lib.hid (EE.out.keep hb); replace ct := EE.out.tab.cell; replace cm := EE.out.man.cell; replace cs := EE.out.sp.cell; clear hb)
                  | (refine wpList_store_all rfl 24 _ _ rfl wA.heap.size rfl _ rfl 24 _ (Has.new wA 24 _) (by kernel_rfl) rfl (by simp [Value.oneCell']) ?_; have hb := box_below (W := wA) #[.int .i64 0, .int .i64 0] #[.int .i64 (l + ((g - l) * a4).tdiv 100), .int .i64 (l + ((g - l) * a5).tdiv 100)] 24; have XX := Lib.hid (box_has (W := wA) #[.int .i64 0, .int .i64 0] #[.int .i64 (l + ((g - l) * a4).tdiv 100), .int .i64 (l + ((g - l) * a5).tdiv 100)] 24); have cx := XX.out.cell; replace EE := Lib.hid (EE.out.keep hb); replace ct := EE.out.tab.cell; replace cm := EE.out.man.cell; replace cs := EE.out.sp.cell; clear hb)
                  | (go_at_call 15; refine (knownLaw_c _).mono ?_; rintro e w9 ⟨rfl, hb⟩; have HB := Lib.hid (nextB EE.out.below hb); clear hb))
                apply wp_loose 12 (.v (.agg #[.slice pA pn pc, .slice sA sn sc]) :: .v (.agg #[.slice rA rn rc]) :: .v (.agg #[.int .i64 l, .int .i64 g]) :: .v (.int .i64 (a3)) :: .v (.agg #[.int .i64 a3, .int .i64 a3]) :: .r (fun v w' => ∃ g0 cap, v = .slice (some ⟨g0, 0, none⟩) 1 cap ∧ SlOf St.cs 4 w' (some ⟨g0, 0, none⟩) 1 [⟨l, g, a3, a3⟩]) :: .v (.tuple #[.bool true, .int .i64 0]) :: .v (.tuple #[.bool true, .int .i64 0]) :: .v (.bool true) :: .v (.int .i64 0) :: .v (.bool true) :: .v (.int .i64 0) :: []) (by kernel_rfl) (by kernel_rfl) (by kernel_rfl) (by decide) rfl
                intro K hK
                refine OblS.row rfl 50 (.tmp 6) rfl w.heap.size (by kernel_rfl) 50 _ _ EE.out.tab Tryz.underlying50 rfl (by kernel_rfl) ?_
                refine OblS.row rfl 53 (.tmp 7) rfl (w.heap.size + 1) (by kernel_rfl) 53 _ _ EE.out.man Tryz.underlying53 rfl (by kernel_rfl) ?_
                refine OblS.row rfl 24 (.tmp 8) rfl (w.heap.size + 1 + 1) (by kernel_rfl) 24 _ _ EE.out.sp Tryz.underlying24 rfl (by kernel_rfl) ?_
                refine OblS.val (by kernel_rfl) (fun w' _ _ => (by go_simp; try first | done | rfl)) ?_
                refine OblS.call 24 (by kernel_rfl) (fun w' hb _ => ⟨_, (by kernel_rfl), just1_c _ w'⟩) ?_
                refine OblS.callR 52 (by rintro v x y ⟨g0, cap, e, h⟩ hb; exact ⟨g0, cap, e, h.keep hb⟩) (by kernel_rfl) (fun w' hb _ => ⟨#[.slice none 0 0, .agg #[.int .i64 l, .int .i64 g], .agg #[.int .i64 a3, .int .i64 a3]], (by kernel_rfl), (More_c none 0 0 [] (fun _ => rfl) (by omega) _ _ _ _ w' (SlOf.nil _ _ _)).mono fun e x ⟨g0, cap, h1, h2, h3⟩ => ⟨_, h1, ⟨g0, cap, rfl, h2⟩, h3⟩⟩) ?_
                intro v6
                refine OblS.call 40 (by kernel_rfl) (fun w' hb hH => ?_) ?_
                · obtain ⟨g0, cap, rfl, hsl⟩ := hH _ (List.mem_cons_self ..) (by kernel_rfl)
                  exact ⟨#[.agg #[.slice pA pn pc, .slice sA sn sc], .agg #[.slice rA rn rc], .slice (some ⟨g0, 0, none⟩) 1 cap], (by kernel_rfl), HSv.out w' (nextB EE.out.below hb) g0 cap hsl⟩
                refine OblS.val (by kernel_rfl) (fun w' _ _ => (by kernel_rfl)) ?_
                refine OblS.val (by kernel_rfl) (fun w' _ _ => (by kernel_rfl)) ?_
                refine OblS.val (by kernel_rfl) (fun w' _ _ => (by kernel_rfl)) ?_
                refine OblS.val (by kernel_rfl) (fun w' _ _ => (by kernel_rfl)) ?_
                refine OblS.val (by kernel_rfl) (fun w' _ _ => (by kernel_rfl)) ?_
                apply OblS.nil
                apply hK
                intro w6 hb hH
                clear hH hK K
                simp only [Act.put, List.setIfInBounds_toArray, List.set_cons_zero, List.set_cons_succ, List.drop_succ_cons, List.drop_zero]
                replace EE := Lib.hid (EE.out.keep hb); replace ct := EE.out.tab.cell; replace cm := EE.out.man.cell; replace cs := EE.out.sp.cell; clear hb
                go_wp2_with (first
                  | (go_at_call 26; refine (HSh.out _).mono ?_; rintro e w1 ⟨rfl, hb⟩; have EE := Lib.hid (E0.out.keep hb); have ct := EE.out.tab.cell; have cm := EE.out.man.cell; have cs := EE.out.sp.cell; clear hb)
                  | (go_at_call 32; refine (HFi.out _ EE.out.below).mono ?_; rintro e w2 ⟨rfl, hb⟩; replace EE := Lib.hid (EE.out.keep hb); replace ct := EE.out.tab.cell; replace cm := EE.out.man.cell; replace cs := EE.out.sp.cell; clear hb)
                  | (go_at_call 50; refine (HFa.out _).mono ?_; rintro e w3 ⟨rfl, hb⟩; replace EE := Lib.hid (EE.out.keep hb); replace ct := EE.out.tab.cell; replace cm := EE.out.man.cell; replace cs := EE.out.sp.cell; clear hb)
                  | (go_at_call 49; refine (HLL.out _ EE.out.below _ _).mono ?_; rintro e w4 ⟨rfl, hb⟩; (first | rw [HE1.out] | rw [HE2.out]); replace EE := Lib.hid (EE.out.keep hb); replace ct := EE.out.tab.cell; replace cm := EE.out.man.cell; replace cs := EE.out.sp.cell; clear hb)
                  | (go_at_call 44; refine (span_c _ _ _).mono ?_; rintro e wA ⟨rfl, hb⟩; replace EE := Lib.hid (EE.out.keep hb); replace ct := EE.out.tab.cell; replace cm := EE.out.man.cell; replace cs := EE.out.sp.cell; clear hb)
                  | (refine wpList_store_all rfl 24 _ _ rfl wA.heap.size rfl _ rfl 24 _ (Has.new wA 24 _) (by kernel_rfl) rfl (by simp [Value.oneCell']) ?_; have hb := box_below (W := wA) #[.int .i64 0, .int .i64 0] #[.int .i64 (l + ((g - l) * a4).tdiv 100), .int .i64 (l + ((g - l) * a5).tdiv 100)] 24; have XX := Lib.hid (box_has (W := wA) #[.int .i64 0, .int .i64 0] #[.int .i64 (l + ((g - l) * a4).tdiv 100), .int .i64 (l + ((g - l) * a5).tdiv 100)] 24); have cx := XX.out.cell; replace EE := Lib.hid (EE.out.keep hb); replace ct := EE.out.tab.cell; replace cm := EE.out.man.cell; replace cs := EE.out.sp.cell; clear hb)
                  | (go_at_call 15; refine (knownLaw_c _).mono ?_; rintro e w9 ⟨rfl, hb⟩; have HB := Lib.hid (nextB EE.out.below hb); clear hb))
                all_goals exact bodyPost_ret (results_tmp rfl _ _ _) rfl ⟨rfl, HB.out⟩
              · clear HSu0 HS1 htr hfa
                obtain ⟨pA, sA, rA, pn, pc, sn, sc, rn, rc, ps, ss, rs⟩ := t
                simp only [Tm.tab, Tm.man] at *
                go_enter Tryz.func13, Tryz.ntmps13
                go_wp2_with (first
                  | (go_at_call 26; refine (HSh.out _).mono ?_; rintro e w1 ⟨rfl, hb⟩; have EE := Lib.hid (E0.out.keep hb); have ct := EE.out.tab.cell; have cm := EE.out.man.cell; have cs := EE.out.sp.cell; clear hb)
                  | (go_at_call 32; refine (HFi.out _ EE.out.below).mono ?_; rintro e w2 ⟨rfl, hb⟩; replace EE := Lib.hid (EE.out.keep hb); replace ct := EE.out.tab.cell; replace cm := EE.out.man.cell; replace cs := EE.out.sp.cell; clear hb)
                  | (go_at_call 50; refine (HFa.out _).mono ?_; rintro e w3 ⟨rfl, hb⟩; replace EE := Lib.hid (EE.out.keep hb); replace ct := EE.out.tab.cell; replace cm := EE.out.man.cell; replace cs := EE.out.sp.cell; clear hb)
                  | (go_at_call 49; refine (HLL.out _ EE.out.below _ _).mono ?_; rintro e w4 ⟨rfl, hb⟩; (first | rw [HE1.out] | rw [HE2.out]); replace EE := Lib.hid (EE.out.keep hb); replace ct := EE.out.tab.cell; replace cm := EE.out.man.cell; replace cs := EE.out.sp.cell; clear hb)
                  | (go_at_call 44; refine (span_c _ _ _).mono ?_; rintro e wA ⟨rfl, hb⟩; replace EE := Lib.hid (EE.out.keep hb); replace ct := EE.out.tab.cell; replace cm := EE.out.man.cell; replace cs := EE.out.sp.cell; clear hb)
                  | (refine wpList_store_all rfl 24 _ _ rfl wA.heap.size rfl _ rfl 24 _ (Has.new wA 24 _) (by kernel_rfl) rfl (by simp [Value.oneCell']) ?_; have hb := box_below (W := wA) #[.int .i64 0, .int .i64 0] #[.int .i64 (l + ((g - l) * a4).tdiv 100), .int .i64 (l + ((g - l) * a5).tdiv 100)] 24; have XX := Lib.hid (box_has (W := wA) #[.int .i64 0, .int .i64 0] #[.int .i64 (l + ((g - l) * a4).tdiv 100), .int .i64 (l + ((g - l) * a5).tdiv 100)] 24); have cx := XX.out.cell; replace EE := Lib.hid (EE.out.keep hb); replace ct := EE.out.tab.cell; replace cm := EE.out.man.cell; replace cs := EE.out.sp.cell; clear hb)
                  | (go_at_call 15; refine (knownLaw_c _).mono ?_; rintro e w9 ⟨rfl, hb⟩; have HB := Lib.hid (nextB EE.out.below hb); clear hb))
                all_goals exact bodyPost_ret (results_tmp rfl _ _ _) rfl ⟨rfl, HB.out⟩
            · have HSu := Lib.hid (HSu0 L (by omega))
              rw [HS1 L (by omega), hfa (by omega)] at HSu
              by_cases h3 : 0 ≤ a3 ∧ a3 ≤ L - 1
              · have HSv := Lib.hid (HSu0 a3 (by omega))
                rw [HS1 a3 (by omega), htr a3 (by omega) (by omega)] at HSv
                obtain ⟨h3a, h3b⟩ := h3
                clear HSu0 HS1 htr hfa
                obtain ⟨pA, sA, rA, pn, pc, sn, sc, rn, rc, ps, ss, rs⟩ := t
                simp only [Tm.tab, Tm.man] at *
                go_enter Tryz.func13, Tryz.ntmps13
                go_wp2_with (first
                  | (go_at_call 26; refine (HSh.out _).mono ?_; rintro e w1 ⟨rfl, hb⟩; have EE := Lib.hid (E0.out.keep hb); have ct := EE.out.tab.cell; have cm := EE.out.man.cell; have cs := EE.out.sp.cell; clear hb)
                  | (go_at_call 32; refine (HFi.out _ EE.out.below).mono ?_; rintro e w2 ⟨rfl, hb⟩; replace EE := Lib.hid (EE.out.keep hb); replace ct := EE.out.tab.cell; replace cm := EE.out.man.cell; replace cs := EE.out.sp.cell; clear hb)
                  | (go_at_call 50; refine (HFa.out _).mono ?_; rintro e w3 ⟨rfl, hb⟩; replace EE := Lib.hid (EE.out.keep hb); replace ct := EE.out.tab.cell; replace cm := EE.out.man.cell; replace cs := EE.out.sp.cell; clear hb)
                  | (go_at_call 49; refine (HLL.out _ EE.out.below _ _).mono ?_; rintro e w4 ⟨rfl, hb⟩; (first | rw [HE1.out] | rw [HE2.out]); replace EE := Lib.hid (EE.out.keep hb); replace ct := EE.out.tab.cell; replace cm := EE.out.man.cell; replace cs := EE.out.sp.cell; clear hb)
                  | (go_at_call 44; refine (span_c _ _ _).mono ?_; rintro e wA ⟨rfl, hb⟩; replace EE := Lib.hid (EE.out.keep hb); replace ct := EE.out.tab.cell; replace cm := EE.out.man.cell; replace cs := EE.out.sp.cell; clear hb)
                  | (refine wpList_store_all rfl 24 _ _ rfl wA.heap.size rfl _ rfl 24 _ (Has.new wA 24 _) (by kernel_rfl) rfl (by simp [Value.oneCell']) ?_; have hb := box_below (W := wA) #[.int .i64 0, .int .i64 0] #[.int .i64 (l + ((g - l) * a4).tdiv 100), .int .i64 (l + ((g - l) * a5).tdiv 100)] 24; have XX := Lib.hid (box_has (W := wA) #[.int .i64 0, .int .i64 0] #[.int .i64 (l + ((g - l) * a4).tdiv 100), .int .i64 (l + ((g - l) * a5).tdiv 100)] 24); have cx := XX.out.cell; replace EE := Lib.hid (EE.out.keep hb); replace ct := EE.out.tab.cell; replace cm := EE.out.man.cell; replace cs := EE.out.sp.cell; clear hb)
                  | (go_at_call 15; refine (knownLaw_c _).mono ?_; rintro e w9 ⟨rfl, hb⟩; have HB := Lib.hid (nextB EE.out.below hb); clear hb))
                apply wp_loose 13 (.v (.agg #[.slice pA pn pc, .slice sA sn sc]) :: .v (.agg #[.slice rA rn rc]) :: .v (.agg #[.int .i64 l, .int .i64 g]) :: .v (.int .i64 (L - 1)) :: .v (.int .i64 (L)) :: .v (.agg #[.int .i64 L, .int .i64 L]) :: .r (fun v w' => ∃ g0 cap, v = .slice (some ⟨g0, 0, none⟩) 1 cap ∧ SlOf St.cs 4 w' (some ⟨g0, 0, none⟩) 1 [⟨l, g, L, L⟩]) :: .v (.tuple #[.bool false, .int .i64 0]) :: .v (.tuple #[.bool false, .int .i64 0]) :: .v (.bool false) :: .v (.int .i64 0) :: .v (.bool false) :: .v (.int .i64 0) :: []) (by kernel_rfl) (by kernel_rfl) (by kernel_rfl) (by decide) rfl
                intro K hK
                refine OblS.row rfl 50 (.tmp 6) rfl w.heap.size (by kernel_rfl) 50 _ _ EE.out.tab Tryz.underlying50 rfl (by kernel_rfl) ?_
                refine OblS.row rfl 53 (.tmp 7) rfl (w.heap.size + 1) (by kernel_rfl) 53 _ _ EE.out.man Tryz.underlying53 rfl (by kernel_rfl) ?_
                refine OblS.row rfl 24 (.tmp 8) rfl (w.heap.size + 1 + 1) (by kernel_rfl) 24 _ _ EE.out.sp Tryz.underlying24 rfl (by kernel_rfl) ?_
                refine OblS.val (by kernel_rfl) (fun w' _ _ => (by go_simp; try first | done | rfl)) ?_
                refine OblS.val (by kernel_rfl) (fun w' _ _ => (by go_simp; try first | done | rfl)) ?_
                refine OblS.call 24 (by kernel_rfl) (fun w' hb _ => ⟨_, (by kernel_rfl), just1_c _ w'⟩) ?_
                refine OblS.callR 52 (by rintro v x y ⟨g0, cap, e, h⟩ hb; exact ⟨g0, cap, e, h.keep hb⟩) (by kernel_rfl) (fun w' hb _ => ⟨#[.slice none 0 0, .agg #[.int .i64 l, .int .i64 g], .agg #[.int .i64 L, .int .i64 L]], (by kernel_rfl), (More_c none 0 0 [] (fun _ => rfl) (by omega) _ _ _ _ w' (SlOf.nil _ _ _)).mono fun e x ⟨g0, cap, h1, h2, h3⟩ => ⟨_, h1, ⟨g0, cap, rfl, h2⟩, h3⟩⟩) ?_
                intro v6
                refine OblS.call 40 (by kernel_rfl) (fun w' hb hH => ?_) ?_
                · obtain ⟨g0, cap, rfl, hsl⟩ := hH _ (List.mem_cons_self ..) (by kernel_rfl)
                  exact ⟨#[.agg #[.slice pA pn pc, .slice sA sn sc], .agg #[.slice rA rn rc], .slice (some ⟨g0, 0, none⟩) 1 cap], (by kernel_rfl), HSu.out w' (nextB EE.out.below hb) g0 cap hsl⟩
                refine OblS.val (by kernel_rfl) (fun w' _ _ => (by kernel_rfl)) ?_
                refine OblS.val (by kernel_rfl) (fun w' _ _ => (by kernel_rfl)) ?_
                refine OblS.val (by kernel_rfl) (fun w' _ _ => (by kernel_rfl)) ?_
                refine OblS.val (by kernel_rfl) (fun w' _ _ => (by kernel_rfl)) ?_
                refine OblS.val (by kernel_rfl) (fun w' _ _ => (by kernel_rfl)) ?_
                apply OblS.nil
                apply hK
                intro w6 hb hH
                clear hH hK K
                simp only [Act.put, List.setIfInBounds_toArray, List.set_cons_zero, List.set_cons_succ, List.drop_succ_cons, List.drop_zero]
                replace EE := Lib.hid (EE.out.keep hb); replace ct := EE.out.tab.cell; replace cm := EE.out.man.cell; replace cs := EE.out.sp.cell; clear hb
                go_wp2_with (first
                  | (go_at_call 26; refine (HSh.out _).mono ?_; rintro e w1 ⟨rfl, hb⟩; have EE := Lib.hid (E0.out.keep hb); have ct := EE.out.tab.cell; have cm := EE.out.man.cell; have cs := EE.out.sp.cell; clear hb)
                  | (go_at_call 32; refine (HFi.out _ EE.out.below).mono ?_; rintro e w2 ⟨rfl, hb⟩; replace EE := Lib.hid (EE.out.keep hb); replace ct := EE.out.tab.cell; replace cm := EE.out.man.cell; replace cs := EE.out.sp.cell; clear hb)
                  | (go_at_call 50; refine (HFa.out _).mono ?_; rintro e w3 ⟨rfl, hb⟩; replace EE := Lib.hid (EE.out.keep hb); replace ct := EE.out.tab.cell; replace cm := EE.out.man.cell; replace cs := EE.out.sp.cell; clear hb)
                  | (go_at_call 49; refine (HLL.out _ EE.out.below _ _).mono ?_; rintro e w4 ⟨rfl, hb⟩; (first | rw [HE1.out] | rw [HE2.out]); replace EE := Lib.hid (EE.out.keep hb); replace ct := EE.out.tab.cell; replace cm := EE.out.man.cell; replace cs := EE.out.sp.cell; clear hb)
                  | (go_at_call 44; refine (span_c _ _ _).mono ?_; rintro e wA ⟨rfl, hb⟩; replace EE := Lib.hid (EE.out.keep hb); replace ct := EE.out.tab.cell; replace cm := EE.out.man.cell; replace cs := EE.out.sp.cell; clear hb)
                  | (refine wpList_store_all rfl 24 _ _ rfl wA.heap.size rfl _ rfl 24 _ (Has.new wA 24 _) (by kernel_rfl) rfl (by simp [Value.oneCell']) ?_; have hb := box_below (W := wA) #[.int .i64 0, .int .i64 0] #[.int .i64 (l + ((g - l) * a4).tdiv 100), .int .i64 (l + ((g - l) * a5).tdiv 100)] 24; have XX := Lib.hid (box_has (W := wA) #[.int .i64 0, .int .i64 0] #[.int .i64 (l + ((g - l) * a4).tdiv 100), .int .i64 (l + ((g - l) * a5).tdiv 100)] 24); have cx := XX.out.cell; replace EE := Lib.hid (EE.out.keep hb); replace ct := EE.out.tab.cell; replace cm := EE.out.man.cell; replace cs := EE.out.sp.cell; clear hb)
                  | (go_at_call 15; refine (knownLaw_c _).mono ?_; rintro e w9 ⟨rfl, hb⟩; have HB := Lib.hid (nextB EE.out.below hb); clear hb))
                apply wp_loose 12 (.v (.agg #[.slice pA pn pc, .slice sA sn sc]) :: .v (.agg #[.slice rA rn rc]) :: .v (.agg #[.int .i64 l, .int .i64 g]) :: .v (.int .i64 (a3)) :: .v (.agg #[.int .i64 a3, .int .i64 a3]) :: .r (fun v w' => ∃ g0 cap, v = .slice (some ⟨g0, 0, none⟩) 1 cap ∧ SlOf St.cs 4 w' (some ⟨g0, 0, none⟩) 1 [⟨l, g, a3, a3⟩]) :: .v (.tuple #[.bool true, .int .i64 0]) :: .v (.tuple #[.bool true, .int .i64 0]) :: .v (.bool true) :: .v (.int .i64 0) :: .v (.bool true) :: .v (.int .i64 0) :: []) (by kernel_rfl) (by kernel_rfl) (by kernel_rfl) (by decide) rfl
                intro K hK
                refine OblS.row rfl 50 (.tmp 6) rfl w.heap.size (by kernel_rfl) 50 _ _ EE.out.tab Tryz.underlying50 rfl (by kernel_rfl) ?_
                refine OblS.row rfl 53 (.tmp 7) rfl (w.heap.size + 1) (by kernel_rfl) 53 _ _ EE.out.man Tryz.underlying53 rfl (by kernel_rfl) ?_
                refine OblS.row rfl 24 (.tmp 8) rfl (w.heap.size + 1 + 1) (by kernel_rfl) 24 _ _ EE.out.sp Tryz.underlying24 rfl (by kernel_rfl) ?_
                refine OblS.val (by kernel_rfl) (fun w' _ _ => (by go_simp; try first | done | rfl)) ?_
                refine OblS.call 24 (by kernel_rfl) (fun w' hb _ => ⟨_, (by kernel_rfl), just1_c _ w'⟩) ?_
                refine OblS.callR 52 (by rintro v x y ⟨g0, cap, e, h⟩ hb; exact ⟨g0, cap, e, h.keep hb⟩) (by kernel_rfl) (fun w' hb _ => ⟨#[.slice none 0 0, .agg #[.int .i64 l, .int .i64 g], .agg #[.int .i64 a3, .int .i64 a3]], (by kernel_rfl), (More_c none 0 0 [] (fun _ => rfl) (by omega) _ _ _ _ w' (SlOf.nil _ _ _)).mono fun e x ⟨g0, cap, h1, h2, h3⟩ => ⟨_, h1, ⟨g0, cap, rfl, h2⟩, h3⟩⟩) ?_
                intro v6
                refine OblS.call 40 (by kernel_rfl) (fun w' hb hH => ?_) ?_
                · obtain ⟨g0, cap, rfl, hsl⟩ := hH _ (List.mem_cons_self ..) (by kernel_rfl)
                  exact ⟨#[.agg #[.slice pA pn pc, .slice sA sn sc], .agg #[.slice rA rn rc], .slice (some ⟨g0, 0, none⟩) 1 cap], (by kernel_rfl), HSv.out w' (nextB EE.out.below hb) g0 cap hsl⟩
                refine OblS.val (by kernel_rfl) (fun w' _ _ => (by kernel_rfl)) ?_
                refine OblS.val (by kernel_rfl) (fun w' _ _ => (by kernel_rfl)) ?_
                refine OblS.val (by kernel_rfl) (fun w' _ _ => (by kernel_rfl)) ?_
                refine OblS.val (by kernel_rfl) (fun w' _ _ => (by kernel_rfl)) ?_
                refine OblS.val (by kernel_rfl) (fun w' _ _ => (by kernel_rfl)) ?_
                apply OblS.nil
                apply hK
                intro w6 hb hH
                clear hH hK K
                simp only [Act.put, List.setIfInBounds_toArray, List.set_cons_zero, List.set_cons_succ, List.drop_succ_cons, List.drop_zero]
                replace EE := Lib.hid (EE.out.keep hb); replace ct := EE.out.tab.cell; replace cm := EE.out.man.cell; replace cs := EE.out.sp.cell; clear hb
                go_wp2_with (first
                  | (go_at_call 26; refine (HSh.out _).mono ?_; rintro e w1 ⟨rfl, hb⟩; have EE := Lib.hid (E0.out.keep hb); have ct := EE.out.tab.cell; have cm := EE.out.man.cell; have cs := EE.out.sp.cell; clear hb)
                  | (go_at_call 32; refine (HFi.out _ EE.out.below).mono ?_; rintro e w2 ⟨rfl, hb⟩; replace EE := Lib.hid (EE.out.keep hb); replace ct := EE.out.tab.cell; replace cm := EE.out.man.cell; replace cs := EE.out.sp.cell; clear hb)
                  | (go_at_call 50; refine (HFa.out _).mono ?_; rintro e w3 ⟨rfl, hb⟩; replace EE := Lib.hid (EE.out.keep hb); replace ct := EE.out.tab.cell; replace cm := EE.out.man.cell; replace cs := EE.out.sp.cell; clear hb)
                  | (go_at_call 49; refine (HLL.out _ EE.out.below _ _).mono ?_; rintro e w4 ⟨rfl, hb⟩; (first | rw [HE1.out] | rw [HE2.out]); replace EE := Lib.hid (EE.out.keep hb); replace ct := EE.out.tab.cell; replace cm := EE.out.man.cell; replace cs := EE.out.sp.cell; clear hb)
                  | (go_at_call 44; refine (span_c _ _ _).mono ?_; rintro e wA ⟨rfl, hb⟩; replace EE := Lib.hid (EE.out.keep hb); replace ct := EE.out.tab.cell; replace cm := EE.out.man.cell; replace cs := EE.out.sp.cell; clear hb)
                  | (refine wpList_store_all rfl 24 _ _ rfl wA.heap.size rfl _ rfl 24 _ (Has.new wA 24 _) (by kernel_rfl) rfl (by simp [Value.oneCell']) ?_; have hb := box_below (W := wA) #[.int .i64 0, .int .i64 0] #[.int .i64 (l + ((g - l) * a4).tdiv 100), .int .i64 (l + ((g - l) * a5).tdiv 100)] 24; have XX := Lib.hid (box_has (W := wA) #[.int .i64 0, .int .i64 0] #[.int .i64 (l + ((g - l) * a4).tdiv 100), .int .i64 (l + ((g - l) * a5).tdiv 100)] 24); have cx := XX.out.cell; replace EE := Lib.hid (EE.out.keep hb); replace ct := EE.out.tab.cell; replace cm := EE.out.man.cell; replace cs := EE.out.sp.cell; clear hb)
                  | (go_at_call 15; refine (knownLaw_c _).mono ?_; rintro e w9 ⟨rfl, hb⟩; have HB := Lib.hid (nextB EE.out.below hb); clear hb))
                all_goals exact bodyPost_ret (results_tmp rfl _ _ _) rfl ⟨rfl, HB.out⟩
              · clear HSu0 HS1 htr hfa
                obtain ⟨pA, sA, rA, pn, pc, sn, sc, rn, rc, ps, ss, rs⟩ := t
                simp only [Tm.tab, Tm.man] at *
                go_enter Tryz.func13, Tryz.ntmps13
                go_wp2_with (first
                  | (go_at_call 26; refine (HSh.out _).mono ?_; rintro e w1 ⟨rfl, hb⟩; have EE := Lib.hid (E0.out.keep hb); have ct := EE.out.tab.cell; have cm := EE.out.man.cell; have cs := EE.out.sp.cell; clear hb)
                  | (go_at_call 32; refine (HFi.out _ EE.out.below).mono ?_; rintro e w2 ⟨rfl, hb⟩; replace EE := Lib.hid (EE.out.keep hb); replace ct := EE.out.tab.cell; replace cm := EE.out.man.cell; replace cs := EE.out.sp.cell; clear hb)
                  | (go_at_call 50; refine (HFa.out _).mono ?_; rintro e w3 ⟨rfl, hb⟩; replace EE := Lib.hid (EE.out.keep hb); replace ct := EE.out.tab.cell; replace cm := EE.out.man.cell; replace cs := EE.out.sp.cell; clear hb)
                  | (go_at_call 49; refine (HLL.out _ EE.out.below _ _).mono ?_; rintro e w4 ⟨rfl, hb⟩; (first | rw [HE1.out] | rw [HE2.out]); replace EE := Lib.hid (EE.out.keep hb); replace ct := EE.out.tab.cell; replace cm := EE.out.man.cell; replace cs := EE.out.sp.cell; clear hb)
                  | (go_at_call 44; refine (span_c _ _ _).mono ?_; rintro e wA ⟨rfl, hb⟩; replace EE := Lib.hid (EE.out.keep hb); replace ct := EE.out.tab.cell; replace cm := EE.out.man.cell; replace cs := EE.out.sp.cell; clear hb)
                  | (refine wpList_store_all rfl 24 _ _ rfl wA.heap.size rfl _ rfl 24 _ (Has.new wA 24 _) (by kernel_rfl) rfl (by simp [Value.oneCell']) ?_; have hb := box_below (W := wA) #[.int .i64 0, .int .i64 0] #[.int .i64 (l + ((g - l) * a4).tdiv 100), .int .i64 (l + ((g - l) * a5).tdiv 100)] 24; have XX := Lib.hid (box_has (W := wA) #[.int .i64 0, .int .i64 0] #[.int .i64 (l + ((g - l) * a4).tdiv 100), .int .i64 (l + ((g - l) * a5).tdiv 100)] 24); have cx := XX.out.cell; replace EE := Lib.hid (EE.out.keep hb); replace ct := EE.out.tab.cell; replace cm := EE.out.man.cell; replace cs := EE.out.sp.cell; clear hb)
                  | (go_at_call 15; refine (knownLaw_c _).mono ?_; rintro e w9 ⟨rfl, hb⟩; have HB := Lib.hid (nextB EE.out.below hb); clear hb))
                apply wp_loose 13 (.v (.agg #[.slice pA pn pc, .slice sA sn sc]) :: .v (.agg #[.slice rA rn rc]) :: .v (.agg #[.int .i64 l, .int .i64 g]) :: .v (.int .i64 (L - 1)) :: .v (.int .i64 (L)) :: .v (.agg #[.int .i64 L, .int .i64 L]) :: .r (fun v w' => ∃ g0 cap, v = .slice (some ⟨g0, 0, none⟩) 1 cap ∧ SlOf St.cs 4 w' (some ⟨g0, 0, none⟩) 1 [⟨l, g, L, L⟩]) :: .v (.tuple #[.bool false, .int .i64 0]) :: .v (.tuple #[.bool false, .int .i64 0]) :: .v (.bool false) :: .v (.int .i64 0) :: .v (.bool false) :: .v (.int .i64 0) :: []) (by kernel_rfl) (by kernel_rfl) (by kernel_rfl) (by decide) rfl
                intro K hK
                refine OblS.row rfl 50 (.tmp 6) rfl w.heap.size (by kernel_rfl) 50 _ _ EE.out.tab Tryz.underlying50 rfl (by kernel_rfl) ?_
                refine OblS.row rfl 53 (.tmp 7) rfl (w.heap.size + 1) (by kernel_rfl) 53 _ _ EE.out.man Tryz.underlying53 rfl (by kernel_rfl) ?_
                refine OblS.row rfl 24 (.tmp 8) rfl (w.heap.size + 1 + 1) (by kernel_rfl) 24 _ _ EE.out.sp Tryz.underlying24 rfl (by kernel_rfl) ?_
                refine OblS.val (by kernel_rfl) (fun w' _ _ => (by go_simp; try first | done | rfl)) ?_
                refine OblS.val (by kernel_rfl) (fun w' _ _ => (by go_simp; try first | done | rfl)) ?_
                refine OblS.call 24 (by kernel_rfl) (fun w' hb _ => ⟨_, (by kernel_rfl), just1_c _ w'⟩) ?_
                refine OblS.callR 52 (by rintro v x y ⟨g0, cap, e, h⟩ hb; exact ⟨g0, cap, e, h.keep hb⟩) (by kernel_rfl) (fun w' hb _ => ⟨#[.slice none 0 0, .agg #[.int .i64 l, .int .i64 g], .agg #[.int .i64 L, .int .i64 L]], (by kernel_rfl), (More_c none 0 0 [] (fun _ => rfl) (by omega) _ _ _ _ w' (SlOf.nil _ _ _)).mono fun e x ⟨g0, cap, h1, h2, h3⟩ => ⟨_, h1, ⟨g0, cap, rfl, h2⟩, h3⟩⟩) ?_
                intro v6
                refine OblS.call 40 (by kernel_rfl) (fun w' hb hH => ?_) ?_
                · obtain ⟨g0, cap, rfl, hsl⟩ := hH _ (List.mem_cons_self ..) (by kernel_rfl)
                  exact ⟨#[.agg #[.slice pA pn pc, .slice sA sn sc], .agg #[.slice rA rn rc], .slice (some ⟨g0, 0, none⟩) 1 cap], (by kernel_rfl), HSu.out w' (nextB EE.out.below hb) g0 cap hsl⟩
                refine OblS.val (by kernel_rfl) (fun w' _ _ => (by kernel_rfl)) ?_
                refine OblS.val (by kernel_rfl) (fun w' _ _ => (by kernel_rfl)) ?_
                refine OblS.val (by kernel_rfl) (fun w' _ _ => (by kernel_rfl)) ?_
                refine OblS.val (by kernel_rfl) (fun w' _ _ => (by kernel_rfl)) ?_
                refine OblS.val (by kernel_rfl) (fun w' _ _ => (by kernel_rfl)) ?_
                apply OblS.nil
                apply hK
                intro w6 hb hH
                clear hH hK K
                simp only [Act.put, List.setIfInBounds_toArray, List.set_cons_zero, List.set_cons_succ, List.drop_succ_cons, List.drop_zero]
                replace EE := Lib.hid (EE.out.keep hb); replace ct := EE.out.tab.cell; replace cm := EE.out.man.cell; replace cs := EE.out.sp.cell; clear hb
                go_wp2_with (first
                  | (go_at_call 26; refine (HSh.out _).mono ?_; rintro e w1 ⟨rfl, hb⟩; have EE := Lib.hid (E0.out.keep hb); have ct := EE.out.tab.cell; have cm := EE.out.man.cell; have cs := EE.out.sp.cell; clear hb)
                  | (go_at_call 32; refine (HFi.out _ EE.out.below).mono ?_; rintro e w2 ⟨rfl, hb⟩; replace EE := Lib.hid (EE.out.keep hb); replace ct := EE.out.tab.cell; replace cm := EE.out.man.cell; replace cs := EE.out.sp.cell; clear hb)
                  | (go_at_call 50; refine (HFa.out _).mono ?_; rintro e w3 ⟨rfl, hb⟩; replace EE := Lib.hid (EE.out.keep hb); replace ct := EE.out.tab.cell; replace cm := EE.out.man.cell; replace cs := EE.out.sp.cell; clear hb)
                  | (go_at_call 49; refine (HLL.out _ EE.out.below _ _).mono ?_; rintro e w4 ⟨rfl, hb⟩; (first | rw [HE1.out] | rw [HE2.out]); replace EE := Lib.hid (EE.out.keep hb); replace ct := EE.out.tab.cell; replace cm := EE.out.man.cell; replace cs := EE.out.sp.cell; clear hb)
                  | (go_at_call 44; refine (span_c _ _ _).mono ?_; rintro e wA ⟨rfl, hb⟩; replace EE := Lib.hid (EE.out.keep hb); replace ct := EE.out.tab.cell; replace cm := EE.out.man.cell; replace cs := EE.out.sp.cell; clear hb)
                  | (refine wpList_store_all rfl 24 _ _ rfl wA.heap.size rfl _ rfl 24 _ (Has.new wA 24 _) (by kernel_rfl) rfl (by simp [Value.oneCell']) ?_; have hb := box_below (W := wA) #[.int .i64 0, .int .i64 0] #[.int .i64 (l + ((g - l) * a4).tdiv 100), .int .i64 (l + ((g - l) * a5).tdiv 100)] 24; have XX := Lib.hid (box_has (W := wA) #[.int .i64 0, .int .i64 0] #[.int .i64 (l + ((g - l) * a4).tdiv 100), .int .i64 (l + ((g - l) * a5).tdiv 100)] 24); have cx := XX.out.cell; replace EE := Lib.hid (EE.out.keep hb); replace ct := EE.out.tab.cell; replace cm := EE.out.man.cell; replace cs := EE.out.sp.cell; clear hb)
                  | (go_at_call 15; refine (knownLaw_c _).mono ?_; rintro e w9 ⟨rfl, hb⟩; have HB := Lib.hid (nextB EE.out.below hb); clear hb))
                all_goals exact bodyPost_ret (results_tmp rfl _ _ _) rfl ⟨rfl, HB.out⟩
        · clear hs hi hsm hd ho
          obtain ⟨pA, sA, rA, pn, pc, sn, sc, rn, rc, ps, ss, rs⟩ := t
          simp only [Tm.tab, Tm.man] at *
          go_enter Tryz.func13, Tryz.ntmps13
          go_wp2_with (first
            | (go_at_call 26; refine (HSh.out _).mono ?_; rintro e w1 ⟨rfl, hb⟩; have EE := Lib.hid (E0.out.keep hb); have ct := EE.out.tab.cell; have cm := EE.out.man.cell; have cs := EE.out.sp.cell; clear hb)
            | (go_at_call 32; refine (HFi.out _ EE.out.below).mono ?_; rintro e w2 ⟨rfl, hb⟩; replace EE := Lib.hid (EE.out.keep hb); replace ct := EE.out.tab.cell; replace cm := EE.out.man.cell; replace cs := EE.out.sp.cell; clear hb)
            | (go_at_call 50; refine (HFa.out _).mono ?_; rintro e w3 ⟨rfl, hb⟩; replace EE := Lib.hid (EE.out.keep hb); replace ct := EE.out.tab.cell; replace cm := EE.out.man.cell; replace cs := EE.out.sp.cell; clear hb)
            | (go_at_call 15; refine (knownLaw_c _).mono ?_; rintro e w9 ⟨rfl, hb⟩; have HB := Lib.hid (nextB EE.out.below hb); clear hb))
          all_goals exact bodyPost_ret (results_tmp rfl _ _ _) rfl ⟨rfl, HB.out⟩
end Go.Proofs
namespace Go.Proofs.YtahochgbkhpefaaGreatDoor.gasStays
open Go.ChangeShapes Go.WideShapes Go.ChangeAt Go.RowKit Go.Proofs

theorem own : ownKnob Tryz.prog.godebug = none := by kernel_rfl
theorem laidOut : laidOutB Tryz.prog = true := by kernel_rfl
theorem door_met (os : Os) (args : Array Value) : laidMetH Tryz.prog Rows.gasStaysRow.laid ((World.doorLaid Tryz.prog 400 os).forCall (fun _ _ => 0) ⟨#[], args, []⟩).memory :=
  laidMetH_of_parts3 (fuel := 8) (laidMet_of_run' 8 (by kernel_rfl) (by kernel_rfl)) (by kernel_rfl) (by kernel_rfl)

set_option maxRecDepth 100000 in
theorem lifted (os : Os) (started : os.Started) (H : Type) (enc : TypeId × Value → H) :
    ReturnsInHanded {} Tryz.checked os 13 .any (fun w args => (Rows.gasStaysSpec.pre enc Tryz.prog Tryz.f13 [] false w args ∧ laidMetH Tryz.prog Rows.gasStaysRow.laid w) ∧ sizedMet enc Tryz.prog Tryz.f13 (OpenSpec.ofChange Rows.gasStaysSpec) false w args)
      (Rows.gasStaysSpec.post enc Tryz.prog Tryz.f13 false true false false) := by
  refine returnsInHanded_of_change_and (C := Tryz.checked) (X := fun w _ => laidMetH Tryz.prog Rows.gasStaysRow.laid w) (fun _ _ _ hh h => h.of_heap hh) own started (by kernel_rfl) Tryz.func13
    (ChangeSpec.witness_shaped (enc := enc) (C := Tryz.checked) (os := os) (X := fun w _ => laidMetH Tryz.prog Rows.gasStaysRow.laid w) false (World.doorLaid Tryz.prog 400 os) #[.agg #[.slice none 0 0, .slice none 0 0], .agg #[.slice none 0 0], .agg #[.int .i64 0, .int .i64 0], .int .i64 0, .int .i64 0, .int .i64 0] 8 rfl (World.shaped_of_RefB (by kernel_rfl) (by kernel_rfl)) (by kernel_rfl) (by kernel_rfl) (by kernel_rfl) (door_met os _)) ?_
  intro W base args ds gs before hval0 hW _ _ hL _
  have hval : ∀ (j : Nat) t v, Tryz.f13.params[j]? = some t → args[j]? = some v → Value.okWide Tryz.prog W .any base t v := hval0
  have hW' := hW
  obtain ⟨p, q, hA0, hV, rfl, hfz, hnd⟩ := hW
  have hA : DataW.TrodAll enc Tryz.prog W 0 (fun _ => true) true Tryz.f13.params.toList args.toList ds p := hA0
  rw [Tryz.params13] at hA hval
  obtain ⟨v0, vs0, d0, ds0, p0, q0, hargs, rfl, rfl, h0, r0⟩ := trodAll_cons hA
  obtain ⟨v1, vs1, d1, ds1, p1, q1, rfl, rfl, rfl, h1, r1⟩ := trodAll_cons r0
  obtain ⟨v2, vs2, d2, ds2, p2, q2, rfl, rfl, rfl, h2, r2⟩ := trodAll_cons r1
  obtain ⟨v3, vs3, d3, ds3, p3, q3, rfl, rfl, rfl, h3, r3⟩ := trodAll_cons r2
  obtain ⟨v4, vs4, d4, ds4, p4, q4, rfl, rfl, rfl, h4, r4⟩ := trodAll_cons r3
  obtain ⟨v5, vs5, d5, ds5, p5, q5, rfl, rfl, rfl, h5, r5⟩ := trodAll_cons r4
  obtain ⟨rfl, rfl, rfl⟩ := trodAll_nil r5
  obtain rfl : args = #[v0, v1, v2, v3, v4, v5] := by cases args; simp_all
  obtain ⟨rfl, rfl⟩ := trodVars_none hV
  have k0 := h0
  have lt0 : ∀ x ∈ p0, x.block < W.heap.size := by obtain ⟨m, hm⟩ := k0; exact DataW.trod_lt m _ _ _ hm
  have u0 := hval 0 50 v0 rfl rfl
  obtain ⟨pA, pn, pc, ps, sA, sn, sc, ss, rfl, hP, hS⟩ := arg_table u0 h0
  have k1 := h1
  have lt1 : ∀ x ∈ p1, x.block < W.heap.size := by obtain ⟨m, hm⟩ := k1; exact DataW.trod_lt m _ _ _ hm
  have u1 := hval 1 53 v1 rfl rfl
  obtain ⟨rA, rn, rc, rs, rfl, hR⟩ := arg_man u1 h1
  have k2 := h2
  have lt2 : ∀ x ∈ p2, x.block < W.heap.size := by obtain ⟨m, hm⟩ := k2; exact DataW.trod_lt m _ _ _ hm
  have u2 := hval 2 24 v2 rfl rfl
  obtain ⟨a2, b2, rfl, w2, x2⟩ := arg_span u2 h2
  have k3 := h3
  have lt3 : ∀ x ∈ p3, x.block < W.heap.size := by obtain ⟨m, hm⟩ := k3; exact DataW.trod_lt m _ _ _ hm
  have u3 := hval 3 3 v3 rfl rfl
  obtain ⟨a3, rfl, w3⟩ := arg_int u3 h3
  have k4 := h4
  have lt4 : ∀ x ∈ p4, x.block < W.heap.size := by obtain ⟨m, hm⟩ := k4; exact DataW.trod_lt m _ _ _ hm
  have u4 := hval 4 3 v4 rfl rfl
  obtain ⟨a4, rfl, w4⟩ := arg_int u4 h4
  have k5 := h5
  have lt5 : ∀ x ∈ p5, x.block < W.heap.size := by obtain ⟨m, hm⟩ := k5; exact DataW.trod_lt m _ _ _ hm
  have u5 := hval 5 3 v5 rfl rfl
  obtain ⟨a5, rfl, w5⟩ := arg_int u5 h5
  clear hA0 hval0
  simp only [List.append_nil] at hW'
  refine (gasStays_walk ⟨pA, sA, rA, pn, pc, sn, sc, rn, rc, ps, ss, rs⟩ a2 b2 a3 a4 a5 W ⟨hP, hS, hR⟩).mono fun e W' ⟨he, bel⟩ => ?_
  subst he
  exact ⟨_, rfl, _, _, _, [], _, [], hW', trodAll_mk1 (shut_bool Tryz.underlying4 _), (trodAll_cons_mk (Below.trod laidOut (by kernel_rfl) (of_decide_eq_true (by kernel_rfl)) k0 bel lt0) (trodAll_cons_mk (Below.trod laidOut (by kernel_rfl) (of_decide_eq_true (by kernel_rfl)) k1 bel lt1) (trodAll_cons_mk (Below.trod laidOut (by kernel_rfl) (of_decide_eq_true (by kernel_rfl)) k2 bel lt2) (trodAll_cons_mk (Below.trod laidOut (by kernel_rfl) (of_decide_eq_true (by kernel_rfl)) k3 bel lt3) (trodAll_cons_mk (Below.trod laidOut (by kernel_rfl) (of_decide_eq_true (by kernel_rfl)) k4 bel lt4) (trodAll_cons_mk (Below.trod laidOut (by kernel_rfl) (of_decide_eq_true (by kernel_rfl)) k5 bel lt5) trodAll_mk0)))))), rfl, bel.frame _, fun h => by cases h⟩

theorem row_holds : Rows.GasStaysSaid :=
  OpenClaim.holds_of_wide 13 Tryz.f13 rfl rfl rfl rfl rfl rfl rfl ⟨rfl, rfl, rfl, rfl, rfl⟩ rfl rfl rfl rfl rfl (by kernel_rfl) Tryz.func13 (by kernel_rfl)
    (of_decide_eq_true (by kernel_rfl)) (by unfold Func.isWrapper; first | (rw [if_pos (by decide +kernel)]; kernel_rfl) | (rw [if_neg (by decide +kernel)]; exact ⟨rfl, rfl⟩))
    (fun os started H enc _ => lifted os started H enc)

theorem gasStays_holds : Rows.GasStaysCardSaid :=
  Claim7.holds_tied_plain_at .later [] [.data, .data, .data] true (true, "7950fa0371113510b48b1005210e74e0fffa460a27dcdf5d658d223fe2172657") true
    row_holds (fun _ h => by cases h) (by kernel_rfl) (fun _ h => by cases h) gasStays_row_tie rfl ⟨rfl, rfl⟩ (by kernel_rfl) rfl
    (fun f fn hf hfn => by
      obtain rfl : f = 13 := Option.some.inj ((show Tryz.prog.funcNamed "bathyal/bathyallaw02.GasStays" = some 13 by kernel_rfl).symm.trans hf) |>.symm
      obtain rfl : fn = Tryz.f13 := (Option.some.inj (Tryz.func13.symm.trans hfn)).symm
      exact ⟨by kernel_rfl, fun j t ht => by
        rw [Tryz.params13] at ht
        have hm : t ∈ [50, 53, 24, 3, 3, 3] := by simpa using Array.mem_of_getElem? ht
        have hall : ([50, 53, 24, 3, 3, 3].all fun u => !Tryz.prog.wantsStandIn u) = true := by kernel_rfl
        exact (show Tryz.prog.wantsStandIn t = false by simpa using List.all_eq_true.1 hall t hm)⟩)
    (by kernel_rfl)
#print axioms gasStays_holds
end Go.Proofs.YtahochgbkhpefaaGreatDoor.gasStays
