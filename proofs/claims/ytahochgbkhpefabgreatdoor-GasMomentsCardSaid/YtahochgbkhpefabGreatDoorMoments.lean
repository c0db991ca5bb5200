/-
  The statement GasMoments holds for every input: the law returns true and what came in reads as before.
-/
import Derived.Test.YtahochgbkhpefabGreatDoorP14
import Derived.Test.YtahochgbkhpefabGreatDoorP15
import Derived.Test.YtahochgbkhpefabGreatDoorP11
import Derived.Test.YtahochgbkhpefabGreatDoorRows
import Derived.Test.YtahochgbkhpefabGreatDoorTie
import Derived.Test.YtahochgbkhpefabGreatDoorCards
import Derived.Test.YtahochgbkhpefabGreatDoorChecked
import Derived.ProofKit
import Derived.OpenShut
import Derived.LaidMore
import Derived.Stop.Joined
import Derived.SevenTiedAt
import Derived.Carry
namespace Go.Proofs
open Go.RowKit Go.Shelf Gas
attribute [local go_sem ↓] Go.wp_at_zero Go.wp_at_succ

theorem results_tmp_row {P : Program} {fn : Func} {s p : Tmp} {ty : TypeId} (h : fn.results = #[.tmp s, .cell p ty]) (tmps : Array Value) (w : World) (g : Nat) (t : TypeId) (cs : Array Value) (fr : Nat × Nat) (d : TypeDesc)
    (hp : tmps.getD p undef = .pointer (some ⟨g, 0, none⟩)) (hg : w.heap[g]? = some (.cells cs t fr))
    (hu : P.underlying ty = some d) (hd : (match d with | .struct _ | .array _ _ => true | _ => false) = true) (hi : (P.info? ty).map (·.size) = some cs.size) :
    (results fn tmps).run P w = .ok (.tuple #[tmps.getD s undef, .agg cs]) w := by
  have hp' : tmps[p]?.getD undef = .pointer (some ⟨g, 0, none⟩) := by simpa using hp
  simp [results, h, hp', asAddr, run_loadVar_row w g t ty cs fr d hg hu hd hi]
/-- The boxes of a table, a man and a span, as a law lays them first. -/
structure Bx3 (w : World) (t : Tm) (l g : Int) (W : World) : Prop where
  below : Below w.heap.size w W
  tab : Has W w.heap.size 25 #[.slice t.pA t.pn t.pc, .slice t.sA t.sn t.sc]
  man : Has W (w.heap.size + 1) 28 #[.slice t.rA t.rn t.rc]
  sp : Has W (w.heap.size + 1 + 1) 43 #[.int .i64 l, .int .i64 g]
theorem Bx3.keep {w W W' : World} {t : Tm} {l g : Int} (h : Bx3 w t l g W) (hb : Below W.heap.size W W') : Bx3 w t l g W' := ⟨nextB h.below hb, h.tab.after hb, h.man.after hb, h.sp.after hb⟩
theorem Bx3.start (w : World) (t : Tm) (l g : Int) : Bx3 w t l g (((w.alloc (.cells #[.slice t.pA t.pn t.pc, .slice t.sA t.sn t.sc] 25)).alloc (.cells #[.slice t.rA t.rn t.rc] 28)).alloc (.cells #[.int .i64 l, .int .i64 g] 43)) :=
  ⟨newB (newB (newB (Below.refl _ _) _) _) _, ((Has.new w 25 _).alloc _).alloc _, (Has.new' _ 28 _ (by simp)).alloc _, Has.new' _ 43 _ (by simp)⟩
/-- What the rounds of the specification's Moment keep. -/
structure Mb (w : World) (t : Tm) (l g : Int) (s : Pr) (W : World) : Prop where
  below : Below w.heap.size w W
  tab : Has W w.heap.size 25 #[.slice t.pA t.pn t.pc, .slice t.sA t.sn t.sc]
  man : Has W (w.heap.size + 1) 28 #[.slice t.rA t.rn t.rc]
  sp : Has W (w.heap.size + 1 + 1) 43 #[.int .i64 l, .int .i64 g]
  res : Has W (w.heap.size + 1 + 1 + 1) 31 #[.int .i64 0, .int .i64 0]
  st : Has W (w.heap.size + 1 + 1 + 1 + 1) 31 #[.int .i64 s.1, .int .i64 s.2]
theorem Mb.keep {w W W' : World} {t : Tm} {l g : Int} {s : Pr} (h : Mb w t l g s W) (hb : Below W.heap.size W W') : Mb w t l g s W' := ⟨nextB h.below hb, h.tab.after hb, h.man.after hb, h.sp.after hb, h.res.after hb, h.st.after hb⟩
theorem Mb.set {w W : World} {t : Tm} {l g : Int} {s : Pr} (h : Mb w t l g s W) (d m : Int) : Mb w t l g (d, m) (W.setRow (w.heap.size + 1 + 1 + 1 + 1) #[.int .i64 d, .int .i64 m]) :=
  ⟨rowB h.below (by omega) _, h.tab.setRow_far (by omega) _, h.man.setRow_far (by omega) _, h.sp.setRow_far (by omega) _, h.res.setRow_far (by omega) _, h.st.setRow _⟩
theorem Mb.fin {w W : World} {t : Tm} {l g : Int} {s : Pr} (h : Mb w t l g s W) (cs : Array Value) : Below w.heap.size w (W.setRow (w.heap.size + 1 + 1 + 1) cs) ∧ Has (W.setRow (w.heap.size + 1 + 1 + 1) cs) (w.heap.size + 1 + 1 + 1) 31 cs :=
  ⟨rowB h.below (by omega) _, h.res.setRow _⟩
theorem Mb.start (w : World) (t : Tm) (l g : Int) : Mb w t l g (0, 0) ((((((w.alloc (.cells #[.slice t.pA t.pn t.pc, .slice t.sA t.sn t.sc] 25)).alloc (.cells #[.slice t.rA t.rn t.rc] 28)).alloc (.cells #[.int .i64 l, .int .i64 g] 43)).alloc (.cells #[.int .i64 0, .int .i64 0] 31)).alloc (.cells #[.int .i64 0, .int .i64 0] 31))) :=
  ⟨newB (newB (newB (newB (newB (Below.refl _ _) _) _) _) _) _, ((((Has.new w 25 _).alloc _).alloc _).alloc _).alloc _, (((Has.new' _ 28 _ (by simp)).alloc _).alloc _).alloc _, ((Has.new' _ 43 _ (by simp)).alloc _).alloc _, (Has.new' _ 31 _ (by simp)).alloc _, Has.new' _ 31 _ (by simp)⟩

set_option maxHeartbeats 2000000 in
set_option maxRecDepth 50000 in
theorem refMoment_c (t : Tm) (ht : t.Ok) (hss : SsOk t) (hrn : t.rs.length ≤ 100) (hsn : t.sn ≤ 1000) (A : Option Addr) (n c : Nat) (dive : List St) (hA : A = none → c = 0) (hn : n ≤ 100) (hds : ∀ s ∈ dive, SOk s) (l g : Int) (ho : ordB l g 0 40 6 = true) (w : World) (hi : t.In w) (hd : SlOf St.cs 4 w A n dive) :
    Calls Tryz.prog 22 #[t.tab, t.man, .slice A n c, .agg #[.int .i64 l, .int .i64 g]] w fun e w' =>
      e = .returned (.tuple #[.int .i64 (lead (momP t (folS t.ps t.rs (h0, true) dive) l g) - 1), .agg #[.int .i64 (momC t (folS t.ps t.rs (h0, true) dive) l g (lead (momP t (folS t.ps t.rs (h0, true) dive) l g))).1, .int .i64 (momC t (folS t.ps t.rs (h0, true) dive) l g (lead (momP t (folS t.ps t.rs (h0, true) dive) l g))).2]]) ∧ Below w.heap.size w w' := by
  have HSt := Lib.hid fun (d : Int) (hdd : 0 ≤ d ∧ d ≤ 100) (W : World) (hb : Below w.heap.size w W) (g0 cap : Nat) (hsl : SlOf St.cs 4 W (some ⟨g0, 0, none⟩) (n + 1) (dive ++ [⟨l, g, d, d⟩])) =>
    (show Calls Tryz.prog 68 #[t.tab, t.man, .slice (some ⟨g0, 0, none⟩) (n + 1) cap] W fun e w' => e = .returned (optS (momR t (folS t.ps t.rs (h0, true) dive) l g d)) ∧ Below W.heap.size W w' by
      have := refStop_c t ht hss hrn hsn (some ⟨g0, 0, none⟩) (n + 1) cap (dive ++ [⟨l, g, d, d⟩]) (by omega) (fun s hs => by
        rcases List.mem_append.1 hs with hs | hs
        · exact hds s hs
        · simp only [List.mem_singleton] at hs
          subst hs
          exact stayS_ok ho (by omega)) W (hi.keep hb) hsl
      rw [show refStR t.ps t.rs t.ss (folS t.ps t.rs (h0, true) (dive ++ [⟨l, g, d, d⟩])) = momR t (folS t.ps t.rs (h0, true) dive) l g d by
        rw [folS_app, ← stop_search]; rfl] at this
      exact this)
  have HMr := Lib.hid fun (m : Int) (W : World) (hb : Below w.heap.size w W) => More_c A n c dive hA (by omega) l g m m W (hd.keep hb)
  have E0 := Lib.hid (Mb.start w t l g)
  have HLE := Lib.hid fun (k : Int) => lead_eq (p := momP t (folS t.ps t.rs (h0, true) dive) l g) (k := k)
  have HC := Lib.hid fun (k : Int) (h : ¬ k + 1 = 0) => (show momC t (folS t.ps t.rs (h0, true) dive) l g (k + 1) = (momR t (folS t.ps t.rs (h0, true) dive) l g k).getD (0, 0) by unfold momC; rw [if_neg h, show k + 1 - 1 = k by omega])
  have HC0 := Lib.hid (show momC t (folS t.ps t.rs (h0, true) dive) l g 0 = (0, 0) from rfl)
  have HP0 := Lib.hid fun (k : Int) => (show momP t (folS t.ps t.rs (h0, true) dive) l g k = (momR t (folS t.ps t.rs (h0, true) dive) l g k).isSome from rfl)
  clear ho hi ht hrn hss hsn hds hd hA
  generalize momP t (folS t.ps t.rs (h0, true) dive) l g = P at *
  generalize momC t (folS t.ps t.rs (h0, true) dive) l g = C at *
  generalize momR t (folS t.ps t.rs (h0, true) dive) l g = R at *
  obtain ⟨pA, sA, rA, pn, pc, sn, sc, rn, rc, ps, ss, rs⟩ := t
  simp only [Tm.tab, Tm.man] at *
  go_enter Tryz.func22, Tryz.ntmps22
  go_wp2_with (refine wpList_store_all rfl 31 _ _ rfl (w.heap.size + 1 + 1 + 1 + 1) rfl _ rfl 31 _ E0.out.st (by kernel_rfl) rfl (by simp [Value.oneCell']) ?_; have E1 := Lib.hid (E0.out.set 0 0))
  simp only [Act.put]
  go_loopw [10] (fun v wr => ∃ k : Nat, k ≤ 41 ∧ v = .int .i64 ((k : Int) - 1) ∧ Mb w ⟨pA, sA, rA, pn, pc, sn, sc, rn, rc, ps, ss, rs⟩ l g (C k) wr ∧ ∀ j : Int, 0 ≤ j → j < k → P j = true) (fun v _ => (41 - intOf v).toNat)
  case atStart => exact ⟨0, by omega, rfl, by rw [show ((0 : Nat) : Int) = 0 from rfl, HC0.out]; exact E1.out, fun j h1 h2 => by omega⟩
  case round =>
    obtain ⟨k, hk, rfl, hE, hP⟩ := hrel
    have EE := Lib.hid hE; have HP := Lib.hid hP
    have hw1 : IntKind.i64.wrap (k : Int) = k := wI (by omega) (by omega)
    clear hE hP
    by_cases hk41 : k = 41
    · subst hk41
      obtain ⟨c1, c2, hC⟩ : ∃ c1 c2, C ((41 : Nat) : Int) = (c1, c2) := ⟨_, _, rfl⟩
      have HCC := Lib.hid hC
      rw [hC] at EE
      clear hC
      go_wp2
      apply wp_loose 3 (.v (.int .i64 40) :: .v (.agg #[.int .i64 c1, .int .i64 c2]) :: .v (.int .i64 40) :: []) (by kernel_rfl) (by kernel_rfl) (by kernel_rfl) (by decide) rfl
      intro K hK
      refine OblS.val (by kernel_rfl) (fun w' _ _ => (by kernel_rfl)) ?_
      refine OblS.row rfl 31 (.tmp 11) rfl (w.heap.size + 1 + 1 + 1 + 1) (by kernel_rfl) 31 _ _ EE.out.st Tryz.underlying31 rfl (by kernel_rfl) ?_
      refine OblS.val (by kernel_rfl) (fun w' _ _ => (by kernel_rfl)) ?_
      apply OblS.nil
      apply hK
      intro w9 hb hH
      clear hH hK K
      simp only [Act.put, List.setIfInBounds_toArray, List.set_cons_zero, List.set_cons_succ, List.drop_succ_cons, List.drop_zero]
      have E9 := Lib.hid (EE.out.keep hb)
      clear hb
      have EF := Lib.hid (E9.out.fin #[.int .i64 c1, .int .i64 c2])
      have HLL := Lib.hid (show lead P = ((41 : Nat) : Int) from HLE.out 41 (by omega) (fun j h1 h2 => HP.out j h1 h2) (by omega) (.inl rfl))
      go_wp2_with (refine wpList_store_all rfl 31 _ _ rfl (w.heap.size + 1 + 1 + 1) rfl _ rfl 31 _ E9.out.res (by kernel_rfl) rfl (by simp [Value.oneCell']) ?_)
      exact bodyPost_ret (results_tmp_row Tryz.results22 _ _ (w.heap.size + 1 + 1 + 1) 31 _ (0, 0) _ rfl EF.out.2 Tryz.underlying31 rfl (by kernel_rfl)) rfl ⟨by rw [HLL.out, HCC.out]; rfl, EF.out.1⟩
    · have hk40 : (k : Int) - 1 < 40 := by omega
      have HS1 := Lib.hid (HSt.out k (by omega))
      have HPk := Lib.hid (HP0.out k)
      have HCk := Lib.hid (HC.out k (by omega))
      obtain ⟨o1, o2, ob, hR⟩ : ∃ o1 o2 ob, optS (R k) = .tuple #[.agg #[.int .i64 o1, .int .i64 o2], .bool ob] ∧ (R k).getD (0, 0) = (o1, o2) ∧ (R k).isSome = ob := ⟨_, _, _, rfl, rfl, rfl⟩
      rw [hR.1] at HS1
      rw [hR.2.1] at HCk
      rw [hR.2.2] at HPk
      clear hR
      obtain ⟨c1, c2, hC⟩ : ∃ c1 c2, C (k : Int) = (c1, c2) := ⟨_, _, rfl⟩
      have HCC := Lib.hid hC
      rw [hC] at EE
      clear hC
      go_wp2
      apply wp_floats 13 11 [.v (.agg #[.slice pA pn pc, .slice sA sn sc]), .v (.agg #[.slice rA rn rc]), .v (.slice A n c), .v (.agg #[.int .i64 l, .int .i64 g]), .v (.int .i64 ((k : Int) - 1)), .v (.int .i64 k), .v (.agg #[.int .i64 k, .int .i64 k]), .r (fun v w' => ∃ g0 cap, v = .slice (some ⟨g0, 0, none⟩) (n + 1) cap ∧ SlOf St.cs 4 w' (some ⟨g0, 0, none⟩) (n + 1) (dive ++ [⟨l, g, k, k⟩])), .v (.tuple #[.agg #[.int .i64 o1, .int .i64 o2], .bool ob]), .v (.tuple #[.agg #[.int .i64 o1, .int .i64 o2], .bool ob]), .v (.agg #[.int .i64 o1, .int .i64 o2]), .p (.bool ob), .r (NewR wr 31 #[.int .i64 0, .int .i64 0])] (by kernel_rfl) (by kernel_rfl) (by kernel_rfl) (by decide) rfl (by decide) rfl rfl (by kernel_rfl)
      intro K hK
      refine OblS.row rfl 25 (.tmp 4) rfl w.heap.size (by kernel_rfl) 25 _ _ EE.out.tab Tryz.underlying25 rfl (by kernel_rfl) ?_
      refine OblS.row rfl 28 (.tmp 5) rfl (w.heap.size + 1) (by kernel_rfl) 28 _ _ EE.out.man Tryz.underlying28 rfl (by kernel_rfl) ?_
      refine OblS.val (by kernel_rfl) (fun w' _ _ => (by kernel_rfl)) ?_
      refine OblS.row rfl 43 (.tmp 7) rfl (w.heap.size + 1 + 1) (by kernel_rfl) 43 _ _ EE.out.sp Tryz.underlying43 rfl (by kernel_rfl) ?_
      refine OblS.val (by kernel_rfl) (fun w' _ _ => (by kernel_rfl)) ?_
      refine OblS.val (by kernel_rfl) (fun w' _ _ => (by go_simp; try first | done | rfl)) ?_
      refine OblS.call 61 (by kernel_rfl) (fun w' hb _ => ⟨_, (by kernel_rfl), refJust_c _ w'⟩) ?_
      refine OblS.callR 23 (by rintro v x y ⟨g0, cap, e, h⟩ hb; exact ⟨g0, cap, e, h.keep hb⟩) (by kernel_rfl) (fun w' hb _ => ⟨#[.slice A n c, .agg #[.int .i64 l, .int .i64 g], .agg #[.int .i64 k, .int .i64 k]], (by kernel_rfl), (HMr.out _ w' (nextB EE.out.below hb)).mono fun e x ⟨g0, cap, h1, h2, h3⟩ => ⟨_, h1, ⟨g0, cap, rfl, h2⟩, h3⟩⟩) ?_
      intro v6
      refine OblS.call 68 (by kernel_rfl) (fun w' hb hH => ?_) ?_
      · obtain ⟨g0, cap, rfl, hsl⟩ := hH _ (List.mem_cons_self ..) (by kernel_rfl)
        exact ⟨#[.agg #[.slice pA pn pc, .slice sA sn sc], .agg #[.slice rA rn rc], .slice (some ⟨g0, 0, none⟩) (n + 1) cap], (by kernel_rfl), HS1.out w' (nextB EE.out.below hb) g0 cap hsl⟩
      refine OblS.val (by kernel_rfl) (fun w' _ _ => (by kernel_rfl)) ?_
      refine OblS.val (by kernel_rfl) (fun w' _ _ => (by kernel_rfl)) ?_
      refine OblS.pure (by kernel_rfl) (fun w' => (by kernel_rfl)) ?_
      refine OblS.makes ⟨rfl, fun a w => by kernel_rfl⟩ ?_
      intro vb
      apply OblS.nil
      apply hK
      intro w2 hb hH
      obtain ⟨B, rfl, hB1, hB2⟩ := hH _ (List.mem_cons_self ..)
      clear hH hK K
      simp only [Act.put, List.setIfInBounds_toArray, List.set_cons_zero, List.set_cons_succ, List.drop_succ_cons, List.drop_zero]
      have HBx := Lib.hid hB2
      have hb3 := rowB hb hB1 #[.int .i64 o1, .int .i64 o2]
      have YY := Lib.hid (HBx.out.setRow #[.int .i64 o1, .int .i64 o2])
      have E6 := Lib.hid (EE.out.keep hb3)
      clear hb hb3 hB1 hB2
      dsimp only [OnlyN, Exit.then]
      cases ob
      · go_wp2_with (refine wpList_store_all rfl 31 _ _ rfl B rfl _ rfl 31 _ HBx.out (by kernel_rfl) rfl (by simp [Value.oneCell']) ?_; generalize w2.setRow B #[.int .i64 o1, .int .i64 o2] = wT at *)
        apply wp_loose 3 (.v (.int .i64 ((k : Int) - 1)) :: .v (.agg #[.int .i64 c1, .int .i64 c2]) :: .v (.int .i64 ((k : Int) - 1)) :: []) (by kernel_rfl) (by kernel_rfl) (by kernel_rfl) (by decide) rfl
        intro K hK
        refine OblS.val (by kernel_rfl) (fun w' _ _ => (by kernel_rfl)) ?_
        refine OblS.row rfl 31 (.tmp 11) rfl (w.heap.size + 1 + 1 + 1 + 1) (by kernel_rfl) 31 _ _ E6.out.st Tryz.underlying31 rfl (by kernel_rfl) ?_
        refine OblS.val (by kernel_rfl) (fun w' _ _ => (by kernel_rfl)) ?_
        apply OblS.nil
        apply hK
        intro w9 hb hH
        clear hH hK K
        simp only [Act.put, List.setIfInBounds_toArray, List.set_cons_zero, List.set_cons_succ, List.drop_succ_cons, List.drop_zero]
        have E9 := Lib.hid (E6.out.keep hb)
        clear hb
        have EF := Lib.hid (E9.out.fin #[.int .i64 c1, .int .i64 c2])
        have HLL := Lib.hid (show lead P = (k : Int) from HLE.out k (by omega) HP.out (by omega) (.inr HPk.out))
        go_wp2_with (refine wpList_store_all rfl 31 _ _ rfl (w.heap.size + 1 + 1 + 1) rfl _ rfl 31 _ E9.out.res (by kernel_rfl) rfl (by simp [Value.oneCell']) ?_)
        exact bodyPost_ret (results_tmp_row Tryz.results22 _ _ (w.heap.size + 1 + 1 + 1) 31 _ (0, 0) _ rfl EF.out.2 Tryz.underlying31 rfl (by kernel_rfl)) rfl ⟨by rw [HLL.out, HCC.out]; rfl, EF.out.1⟩
      · go_wp2_with (refine wpList_store_all rfl 31 _ _ rfl B rfl _ rfl 31 _ HBx.out (by kernel_rfl) rfl (by simp [Value.oneCell']) ?_; generalize w2.setRow B #[.int .i64 o1, .int .i64 o2] = wT at *)
        apply wp_loose 4 (.v (.int .i64 ((k : Int) - 1)) :: .v (.int .i64 k) :: .v (.agg #[.int .i64 o1, .int .i64 o2]) :: .v (.int .i64 k) :: []) (by kernel_rfl) (by kernel_rfl) (by kernel_rfl) (by decide) rfl
        intro K hK
        refine OblS.val (by kernel_rfl) (fun w' _ _ => (by kernel_rfl)) ?_
        refine OblS.val (by kernel_rfl) (fun w' _ _ => (by go_simp; try first | done | rfl)) ?_
        refine OblS.row rfl 31 (.tmp 12) rfl B (by kernel_rfl) 31 _ _ YY.out Tryz.underlying31 rfl (by kernel_rfl) ?_
        refine OblS.val (by kernel_rfl) (fun w' _ _ => (by kernel_rfl)) ?_
        apply OblS.nil
        apply hK
        intro w7 hb hH
        clear hH hK K
        simp only [Act.put, List.setIfInBounds_toArray, List.set_cons_zero, List.set_cons_succ, List.drop_succ_cons, List.drop_zero]
        have E7 := Lib.hid (E6.out.keep hb)
        clear hb
        go_wp2_with (refine wpList_store_all rfl 31 _ _ rfl (w.heap.size + 1 + 1 + 1 + 1) rfl _ rfl 31 _ E7.out.st (by kernel_rfl) rfl (by simp [Value.oneCell']) ?_)
        simp only [Act.put]
        go_roundw
        case rel => exact ⟨k + 1, by omega, by go_num, by rw [show ((k + 1 : Nat) : Int) = (k : Int) + 1 by push_cast; rfl, HCk.out]; exact E7.out.set o1 o2, fun j h1 h2 => by
          rcases Int.lt_or_le j k with h | h
          · exact HP.out j h1 h
          · rw [show j = k by omega]; exact HPk.out⟩
        case measure => simp [intOf]; omega

set_option maxHeartbeats 2000000 in
set_option maxRecDepth 50000 in
theorem gasMoments_walk (t : Tm) (A : Option Addr) (n c : Nat) (dive : List St) (hA : A = none → c = 0) (l g : Int) (w : World) (hi : t.In w) (hd : SlOf St.cs 4 w A n dive) :
    Calls Tryz.prog 4 #[t.tab, t.man, .slice A n c, .agg #[.int .i64 l, .int .i64 g]] w fun e w' => e = .returned (.bool true) ∧ Below w.heap.size w w' := by
  have HSh := Lib.hid fun (W : World) => short_c t A n c W
  have E0 := Lib.hid (Bx3.start w t l g)
  cases hs : shortB t n
  · rw [hs] at HSh
    clear hs hi hd hA
    obtain ⟨pA, sA, rA, pn, pc, sn, sc, rn, rc, ps, ss, rs⟩ := t
    simp only [Tm.tab, Tm.man] at *
    go_enter Tryz.func4, Tryz.ntmps4
    go_wp2_with (first
      | (go_at_call 13; refine (HSh.out _).mono ?_; rintro e w13 ⟨rfl, hb⟩; have EE := Lib.hid (E0.out.keep hb); have ct := EE.out.tab.cell; have cm := EE.out.man.cell; have cs := EE.out.sp.cell; clear hb)
      | (go_at_call 15; refine (knownLaw_c _).mono ?_; rintro e w15 ⟨rfl, hb⟩; have HB := Lib.hid (nextB EE.out.below hb); clear hb))
    exact bodyPost_ret (results_tmp rfl _ _ _) rfl ⟨rfl, HB.out⟩
  · rw [hs] at HSh
    obtain ⟨hsm, hn7⟩ := short_small hs
    have hrn : t.rs.length ≤ 100 := by
      have := hi.rs.1
      simp only [shortB, decide_eq_true_eq] at hs
      omega
    have hsn : t.sn ≤ 1000 := by
      simp only [shortB, decide_eq_true_eq] at hs
      omega
    have hdl := hd.1
    have HFi := Lib.hid fun (W : World) (hb : Below w.heap.size w W) => fine_c t hsm A n c dive (by omega) W (hi.keep hb) (hd.keep hb)
    have HFa := Lib.hid fun (W : World) => fathoms_c l g W
    have HMo := Lib.hid fun (W : World) (hb : Below w.heap.size w W) => Moment_c t hsm A n c dive l g (by omega) W (hi.keep hb) (hd.keep hb)
    have hd2 : ¬ (definedB t.ps t.ss t.rs dive 0 = true ∧ n < 3) → definedB t.ps t.ss t.rs dive 2 = false := fun h => by
      cases hq : definedB t.ps t.ss t.rs dive 2
      · rfl
      · exfalso
        apply h
        simp only [definedB, diveB, Bool.and_eq_true, decide_eq_true_eq] at hq ⊢
        exact ⟨⟨hq.1, by omega, hq.2.2⟩, by omega⟩
    have hmz : momE (0, (0, 0), 2) = .tuple #[.int .i64 0, .agg #[.int .i64 0, .int .i64 0], .int .i64 2] := rfl
    cases hdb : definedB t.ps t.ss t.rs dive 0
    · rw [hdb] at HFi
      rw [show momF t dive l g = (0, (0, 0), 2) by simp [momF, hd2 (by simp [hdb])], hmz] at HMo
      clear hs hi hd hA hsm hdb hd2 hmz hrn hsn hdl
      obtain ⟨pA, sA, rA, pn, pc, sn, sc, rn, rc, ps, ss, rs⟩ := t
      simp only [Tm.tab, Tm.man] at *
      go_enter Tryz.func4, Tryz.ntmps4
      go_wp2_with (first
        | (go_at_call 13; refine (HSh.out _).mono ?_; rintro e w13 ⟨rfl, hb⟩; have EE := Lib.hid (E0.out.keep hb); have ct := EE.out.tab.cell; have cm := EE.out.man.cell; have cs := EE.out.sp.cell; clear hb)
        | (go_at_call 20; refine (HMo.out _ EE.out.below).mono ?_; rintro e w20 ⟨rfl, hb⟩; replace EE := Lib.hid (EE.out.keep hb); replace ct := EE.out.tab.cell; replace cm := EE.out.man.cell; replace cs := EE.out.sp.cell; clear hb)
        | (refine wpList_store_all rfl 31 _ _ rfl w20.heap.size rfl _ rfl 31 _ (Has.new w20 31 _) (by kernel_rfl) rfl (by simp [Value.oneCell']) ?_; have hb := box_below (W := w20) #[.int .i64 0, .int .i64 0] #[.int .i64 0, .int .i64 0] 31; have XX := Lib.hid (box_has (W := w20) #[.int .i64 0, .int .i64 0] #[.int .i64 0, .int .i64 0] 31); have cx := XX.out.cell; replace EE := Lib.hid (EE.out.keep hb); replace ct := EE.out.tab.cell; replace cm := EE.out.man.cell; replace cs := EE.out.sp.cell; clear hb)
        | (go_at_call 14; refine (HFi.out _ EE.out.below).mono ?_; rintro e w14 ⟨rfl, hb⟩; replace EE := Lib.hid (EE.out.keep hb); replace XX := Lib.hid (XX.out.after hb); replace cx := XX.out.cell; replace ct := EE.out.tab.cell; replace cm := EE.out.man.cell; replace cs := EE.out.sp.cell; clear hb)
        | (go_at_call 15; refine (knownLaw_c _).mono ?_; rintro e w15 ⟨rfl, hb⟩; have HB := Lib.hid (nextB EE.out.below hb); clear hb))
      exact bodyPost_ret (results_tmp rfl _ _ _) rfl ⟨rfl, HB.out⟩
    · rw [hdb] at HFi
      cases ho : ordB l g 0 40 6
      · rw [ho] at HFa
        rw [show momF t dive l g = (0, (0, 0), 2) by simp [momF, ho], hmz] at HMo
        clear hs hi hd hA hsm hdb hd2 hmz hrn hsn hdl ho
        obtain ⟨pA, sA, rA, pn, pc, sn, sc, rn, rc, ps, ss, rs⟩ := t
        simp only [Tm.tab, Tm.man] at *
        go_enter Tryz.func4, Tryz.ntmps4
        go_wp2_with (first
          | (go_at_call 13; refine (HSh.out _).mono ?_; rintro e w13 ⟨rfl, hb⟩; have EE := Lib.hid (E0.out.keep hb); have ct := EE.out.tab.cell; have cm := EE.out.man.cell; have cs := EE.out.sp.cell; clear hb)
          | (go_at_call 20; refine (HMo.out _ EE.out.below).mono ?_; rintro e w20 ⟨rfl, hb⟩; replace EE := Lib.hid (EE.out.keep hb); replace ct := EE.out.tab.cell; replace cm := EE.out.man.cell; replace cs := EE.out.sp.cell; clear hb)
          | (refine wpList_store_all rfl 31 _ _ rfl w20.heap.size rfl _ rfl 31 _ (Has.new w20 31 _) (by kernel_rfl) rfl (by simp [Value.oneCell']) ?_; have hb := box_below (W := w20) #[.int .i64 0, .int .i64 0] #[.int .i64 0, .int .i64 0] 31; have XX := Lib.hid (box_has (W := w20) #[.int .i64 0, .int .i64 0] #[.int .i64 0, .int .i64 0] 31); have cx := XX.out.cell; replace EE := Lib.hid (EE.out.keep hb); replace ct := EE.out.tab.cell; replace cm := EE.out.man.cell; replace cs := EE.out.sp.cell; clear hb)
          | (go_at_call 14; refine (HFi.out _ EE.out.below).mono ?_; rintro e w14 ⟨rfl, hb⟩; replace EE := Lib.hid (EE.out.keep hb); replace XX := Lib.hid (XX.out.after hb); replace cx := XX.out.cell; replace ct := EE.out.tab.cell; replace cm := EE.out.man.cell; replace cs := EE.out.sp.cell; clear hb)
          | (go_at_call 21; refine (HFa.out _).mono ?_; rintro e w21 ⟨rfl, hb⟩; replace EE := Lib.hid (EE.out.keep hb); replace XX := Lib.hid (XX.out.after hb); replace cx := XX.out.cell; replace ct := EE.out.tab.cell; replace cm := EE.out.man.cell; replace cs := EE.out.sp.cell; clear hb)
          | (go_at_call 15; refine (knownLaw_c _).mono ?_; rintro e w15 ⟨rfl, hb⟩; have HB := Lib.hid (nextB EE.out.below hb); clear hb))
        exact bodyPost_ret (results_tmp rfl _ _ _) rfl ⟨rfl, HB.out⟩
      · rw [ho] at HFa
        have hw0 : IntKind.i64.wrap ((n : Int) + 1) = (n : Int) + 1 := wI (by omega) (by omega)
        by_cases hn4 : n < 3
        · have hn4b : ¬ 4 ≤ n + 1 := by omega
          have hn4c : ¬ (4 : Int) ≤ (n : Int) + 1 := by omega
          have hn4d : ¬ 3 ≤ n := by omega
          obtain ⟨hok, hds, _⟩ := defined_ok hsm hi hdb
          have HRm := Lib.hid fun (W : World) (hb : Below w.heap.size w W) => refMoment_c t hok (defined_ss hdb) hrn hsn A n c dive hA (by omega) hds l g ho W (hi.keep hb) (hd.keep hb)
          rw [show momF t dive l g = (latV (lead (momP t (folS t.ps t.rs (h0, true) dive) l g)), momC t (folS t.ps t.rs (h0, true) dive) l g (lead (momP t (folS t.ps t.rs (h0, true) dive) l g)), latE (lead (momP t (folS t.ps t.rs (h0, true) dive) l g))) by
            unfold momF; rw [if_pos (by rw [ho, defined_room hdb (by omega)]; rfl)]] at HMo
          obtain ⟨b1, b2⟩ := lead_bd (momP t (folS t.ps t.rs (h0, true) dive) l g)
          have hc0 : momC t (folS t.ps t.rs (h0, true) dive) l g 0 = (0, 0) := rfl
          clear hs hi hd hA hsm hdb hd2 hmz hrn hsn hdl ho hok hds
          generalize lead (momP t (folS t.ps t.rs (h0, true) dive) l g) = L at *
          generalize momC t (folS t.ps t.rs (h0, true) dive) l g = C at *
          by_cases hL : L = 0
          · subst hL
            rw [hc0, show latV 0 = 0 from rfl, show latE 0 = 5 from rfl, show momE (0, (0, 0), 5) = .tuple #[.int .i64 0, .agg #[.int .i64 0, .int .i64 0], .int .i64 5] from rfl] at HMo
            rw [hc0, show (0 : Int) - 1 = -1 from rfl] at HRm
            clear hc0 b1 b2
            obtain ⟨pA, sA, rA, pn, pc, sn, sc, rn, rc, ps, ss, rs⟩ := t
            simp only [Tm.tab, Tm.man] at *
            go_enter Tryz.func4, Tryz.ntmps4
            go_wp2_with (first
              | (go_at_call 13; refine (HSh.out _).mono ?_; rintro e w13 ⟨rfl, hb⟩; have EE := Lib.hid (E0.out.keep hb); have ct := EE.out.tab.cell; have cm := EE.out.man.cell; have cs := EE.out.sp.cell; clear hb)
              | (go_at_call 20; refine (HMo.out _ EE.out.below).mono ?_; rintro e w20 ⟨rfl, hb⟩; replace EE := Lib.hid (EE.out.keep hb); replace ct := EE.out.tab.cell; replace cm := EE.out.man.cell; replace cs := EE.out.sp.cell; clear hb)
              | (refine wpList_store_all rfl 31 _ _ rfl w20.heap.size rfl _ rfl 31 _ (Has.new w20 31 _) (by kernel_rfl) rfl (by simp [Value.oneCell']) ?_; have hb := box_below (W := w20) #[.int .i64 0, .int .i64 0] #[.int .i64 0, .int .i64 0] 31; have XX := Lib.hid (box_has (W := w20) #[.int .i64 0, .int .i64 0] #[.int .i64 0, .int .i64 0] 31); have cx := XX.out.cell; replace EE := Lib.hid (EE.out.keep hb); replace ct := EE.out.tab.cell; replace cm := EE.out.man.cell; replace cs := EE.out.sp.cell; clear hb)
              | (go_at_call 14; refine (HFi.out _ EE.out.below).mono ?_; rintro e w14 ⟨rfl, hb⟩; replace EE := Lib.hid (EE.out.keep hb); replace XX := Lib.hid (XX.out.after hb); replace cx := XX.out.cell; replace ct := EE.out.tab.cell; replace cm := EE.out.man.cell; replace cs := EE.out.sp.cell; clear hb)
              | (go_at_call 21; refine (HFa.out _).mono ?_; rintro e w21 ⟨rfl, hb⟩; replace EE := Lib.hid (EE.out.keep hb); replace XX := Lib.hid (XX.out.after hb); replace cx := XX.out.cell; replace ct := EE.out.tab.cell; replace cm := EE.out.man.cell; replace cs := EE.out.sp.cell; clear hb)
              | (go_at_call 22; refine (HRm.out _ EE.out.below).mono ?_; rintro e w22 ⟨rfl, hb⟩; replace EE := Lib.hid (EE.out.keep hb); replace XX := Lib.hid (XX.out.after hb); replace cx := XX.out.cell; replace ct := EE.out.tab.cell; replace cm := EE.out.man.cell; replace cs := EE.out.sp.cell; clear hb)
              | (refine wpList_store_all rfl 31 _ _ rfl w22.heap.size rfl _ rfl 31 _ (Has.new w22 31 _) (by kernel_rfl) rfl (by simp [Value.oneCell']) ?_; have hb := box_below (W := w22) #[.int .i64 0, .int .i64 0] #[.int .i64 0, .int .i64 0] 31; have YY := Lib.hid (box_has (W := w22) #[.int .i64 0, .int .i64 0] #[.int .i64 0, .int .i64 0] 31); have cYY := YY.out.cell; replace EE := Lib.hid (EE.out.keep hb); replace XX := Lib.hid (XX.out.after hb); replace cx := XX.out.cell; replace ct := EE.out.tab.cell; replace cm := EE.out.man.cell; replace cs := EE.out.sp.cell; clear hb)
              | (go_at_call 15; refine (knownLaw_c _).mono ?_; rintro e w15 ⟨rfl, hb⟩; have HB := Lib.hid (nextB EE.out.below hb); clear hb))
            exact bodyPost_ret (results_tmp rfl _ _ _) rfl ⟨rfl, HB.out⟩
          · obtain ⟨c1, c2, hC⟩ : ∃ c1 c2, C L = (c1, c2) := ⟨_, _, rfl⟩
            obtain ⟨k, rfl⟩ : ∃ k, L = k + 1 := ⟨L - 1, by omega⟩
            rw [hC, show latV (k + 1) = k by simp [latV, hL], show latE (k + 1) = 0 by simp [latE, hL], show momE (k, (c1, c2), 0) = .tuple #[.int .i64 k, .agg #[.int .i64 c1, .int .i64 c2], .int .i64 0] from rfl] at HMo
            rw [hC, show k + 1 - 1 = k by omega] at HRm
            simp only at HRm
            have hx1 : ¬ k < 0 := by omega
            clear hc0 b1 b2 hC hL
            obtain ⟨pA, sA, rA, pn, pc, sn, sc, rn, rc, ps, ss, rs⟩ := t
            simp only [Tm.tab, Tm.man] at *
            go_enter Tryz.func4, Tryz.ntmps4
            go_wp2_with (first
              | (go_at_call 13; refine (HSh.out _).mono ?_; rintro e w13 ⟨rfl, hb⟩; have EE := Lib.hid (E0.out.keep hb); have ct := EE.out.tab.cell; have cm := EE.out.man.cell; have cs := EE.out.sp.cell; clear hb)
              | (go_at_call 20; refine (HMo.out _ EE.out.below).mono ?_; rintro e w20 ⟨rfl, hb⟩; replace EE := Lib.hid (EE.out.keep hb); replace ct := EE.out.tab.cell; replace cm := EE.out.man.cell; replace cs := EE.out.sp.cell; clear hb)
              | (refine wpList_store_all rfl 31 _ _ rfl w20.heap.size rfl _ rfl 31 _ (Has.new w20 31 _) (by kernel_rfl) rfl (by simp [Value.oneCell']) ?_; have hb := box_below (W := w20) #[.int .i64 0, .int .i64 0] #[.int .i64 c1, .int .i64 c2] 31; have XX := Lib.hid (box_has (W := w20) #[.int .i64 0, .int .i64 0] #[.int .i64 c1, .int .i64 c2] 31); have cx := XX.out.cell; replace EE := Lib.hid (EE.out.keep hb); replace ct := EE.out.tab.cell; replace cm := EE.out.man.cell; replace cs := EE.out.sp.cell; clear hb)
              | (go_at_call 14; refine (HFi.out _ EE.out.below).mono ?_; rintro e w14 ⟨rfl, hb⟩; replace EE := Lib.hid (EE.out.keep hb); replace XX := Lib.hid (XX.out.after hb); replace cx := XX.out.cell; replace ct := EE.out.tab.cell; replace cm := EE.out.man.cell; replace cs := EE.out.sp.cell; clear hb)
              | (go_at_call 21; refine (HFa.out _).mono ?_; rintro e w21 ⟨rfl, hb⟩; replace EE := Lib.hid (EE.out.keep hb); replace XX := Lib.hid (XX.out.after hb); replace cx := XX.out.cell; replace ct := EE.out.tab.cell; replace cm := EE.out.man.cell; replace cs := EE.out.sp.cell; clear hb)
              | (go_at_call 22; refine (HRm.out _ EE.out.below).mono ?_; rintro e w22 ⟨rfl, hb⟩; replace EE := Lib.hid (EE.out.keep hb); replace XX := Lib.hid (XX.out.after hb); replace cx := XX.out.cell; replace ct := EE.out.tab.cell; replace cm := EE.out.man.cell; replace cs := EE.out.sp.cell; clear hb)
              | (refine wpList_store_all rfl 31 _ _ rfl w22.heap.size rfl _ rfl 31 _ (Has.new w22 31 _) (by kernel_rfl) rfl (by simp [Value.oneCell']) ?_; have hb := box_below (W := w22) #[.int .i64 0, .int .i64 0] #[.int .i64 c1, .int .i64 c2] 31; have YY := Lib.hid (box_has (W := w22) #[.int .i64 0, .int .i64 0] #[.int .i64 c1, .int .i64 c2] 31); have cYY := YY.out.cell; replace EE := Lib.hid (EE.out.keep hb); replace XX := Lib.hid (XX.out.after hb); replace cx := XX.out.cell; replace ct := EE.out.tab.cell; replace cm := EE.out.man.cell; replace cs := EE.out.sp.cell; clear hb)
              | (go_at_call 15; refine (knownLaw_c _).mono ?_; rintro e w15 ⟨rfl, hb⟩; have HB := Lib.hid (nextB EE.out.below hb); clear hb))
            exact bodyPost_ret (results_tmp rfl _ _ _) rfl ⟨rfl, HB.out⟩
        · have hn4b : 4 ≤ n + 1 := by omega
          have hn4c : (4 : Int) ≤ (n : Int) + 1 := by omega
          have hn4d : 3 ≤ n := by omega
          rw [show momF t dive l g = (0, (0, 0), 2) by simp [momF, hd2 (fun h => hn4 h.2)], hmz] at HMo
          clear hs hi hd hA hsm hdb hd2 hmz hrn hsn hdl ho
          obtain ⟨pA, sA, rA, pn, pc, sn, sc, rn, rc, ps, ss, rs⟩ := t
          simp only [Tm.tab, Tm.man] at *
          go_enter Tryz.func4, Tryz.ntmps4
          go_wp2_with (first
            | (go_at_call 13; refine (HSh.out _).mono ?_; rintro e w13 ⟨rfl, hb⟩; have EE := Lib.hid (E0.out.keep hb); have ct := EE.out.tab.cell; have cm := EE.out.man.cell; have cs := EE.out.sp.cell; clear hb)
            | (go_at_call 20; refine (HMo.out _ EE.out.below).mono ?_; rintro e w20 ⟨rfl, hb⟩; replace EE := Lib.hid (EE.out.keep hb); replace ct := EE.out.tab.cell; replace cm := EE.out.man.cell; replace cs := EE.out.sp.cell; clear hb)
            | (refine wpList_store_all rfl 31 _ _ rfl w20.heap.size rfl _ rfl 31 _ (Has.new w20 31 _) (by kernel_rfl) rfl (by simp [Value.oneCell']) ?_; have hb := box_below (W := w20) #[.int .i64 0, .int .i64 0] #[.int .i64 0, .int .i64 0] 31; have XX := Lib.hid (box_has (W := w20) #[.int .i64 0, .int .i64 0] #[.int .i64 0, .int .i64 0] 31); have cx := XX.out.cell; replace EE := Lib.hid (EE.out.keep hb); replace ct := EE.out.tab.cell; replace cm := EE.out.man.cell; replace cs := EE.out.sp.cell; clear hb)
            | (go_at_call 14; refine (HFi.out _ EE.out.below).mono ?_; rintro e w14 ⟨rfl, hb⟩; replace EE := Lib.hid (EE.out.keep hb); replace XX := Lib.hid (XX.out.after hb); replace cx := XX.out.cell; replace ct := EE.out.tab.cell; replace cm := EE.out.man.cell; replace cs := EE.out.sp.cell; clear hb)
            | (go_at_call 21; refine (HFa.out _).mono ?_; rintro e w21 ⟨rfl, hb⟩; replace EE := Lib.hid (EE.out.keep hb); replace XX := Lib.hid (XX.out.after hb); replace cx := XX.out.cell; replace ct := EE.out.tab.cell; replace cm := EE.out.man.cell; replace cs := EE.out.sp.cell; clear hb)
            | (go_at_call 15; refine (knownLaw_c _).mono ?_; rintro e w15 ⟨rfl, hb⟩; have HB := Lib.hid (nextB EE.out.below hb); clear hb))
          exact bodyPost_ret (results_tmp rfl _ _ _) rfl ⟨rfl, HB.out⟩
end Go.Proofs
namespace Go.Proofs.YtahochgbkhpefabGreatDoor.gasMoments
open Go.ChangeShapes Go.WideShapes Go.ChangeAt Go.RowKit Go.Proofs

theorem own : ownKnob Tryz.prog.godebug = none := by kernel_rfl
theorem laidOut : laidOutB Tryz.prog = true := by kernel_rfl
theorem door_met (os : Os) (args : Array Value) : laidMetH Tryz.prog Rows.gasMomentsRow.laid ((World.doorLaid Tryz.prog 400 os).forCall (fun _ _ => 0) ⟨#[], args, []⟩).memory :=
  laidMetH_of_parts3 (fuel := 8) (laidMet_of_run' 8 (by kernel_rfl) (by kernel_rfl)) (by kernel_rfl) (by kernel_rfl)

set_option maxRecDepth 100000 in
theorem lifted (os : Os) (started : os.Started) (H : Type) (enc : TypeId × Value → H) :
    ReturnsInHanded {} Tryz.checked os 4 .any (fun w args => (Rows.gasMomentsSpec.pre enc Tryz.prog Tryz.f4 [] false w args ∧ laidMetH Tryz.prog Rows.gasMomentsRow.laid w) ∧ sizedMet enc Tryz.prog Tryz.f4 (OpenSpec.ofChange Rows.gasMomentsSpec) false w args)
      (Rows.gasMomentsSpec.post enc Tryz.prog Tryz.f4 false true false false) := by
  refine returnsInHanded_of_change_and (C := Tryz.checked) (X := fun w _ => laidMetH Tryz.prog Rows.gasMomentsRow.laid w) (fun _ _ _ hh h => h.of_heap hh) own started (by kernel_rfl) Tryz.func4
    (ChangeSpec.witness_shaped (enc := enc) (C := Tryz.checked) (os := os) (X := fun w _ => laidMetH Tryz.prog Rows.gasMomentsRow.laid w) false (World.doorLaid Tryz.prog 400 os) #[.agg #[.slice none 0 0, .slice none 0 0], .agg #[.slice none 0 0], .slice none 0 0, .agg #[.int .i64 0, .int .i64 0]] 8 rfl (World.shaped_of_RefB (by kernel_rfl) (by kernel_rfl)) (by kernel_rfl) (by kernel_rfl) (by kernel_rfl) (door_met os _)) ?_
  intro W base args ds gs before hval0 hW _ _ hL _
  have hval : ∀ (j : Nat) t v, Tryz.f4.params[j]? = some t → args[j]? = some v → Value.okWide Tryz.prog W .any base t v := hval0
  have hW' := hW
  obtain ⟨p, q, hA0, hV, rfl, hfz, hnd⟩ := hW
  have hA : DataW.TrodAll enc Tryz.prog W 0 (fun _ => true) true Tryz.f4.params.toList args.toList ds p := hA0
  rw [Tryz.params4] at hA hval
  obtain ⟨v0, vs0, d0, ds0, p0, q0, hargs, rfl, rfl, h0, r0⟩ := trodAll_cons hA
  obtain ⟨v1, vs1, d1, ds1, p1, q1, rfl, rfl, rfl, h1, r1⟩ := trodAll_cons r0
  obtain ⟨v2, vs2, d2, ds2, p2, q2, rfl, rfl, rfl, h2, r2⟩ := trodAll_cons r1
  obtain ⟨v3, vs3, d3, ds3, p3, q3, rfl, rfl, rfl, h3, r3⟩ := trodAll_cons r2
  obtain ⟨rfl, rfl, rfl⟩ := trodAll_nil r3
  obtain rfl : args = #[v0, v1, v2, v3] := by cases args; simp_all
  obtain ⟨rfl, rfl⟩ := trodVars_none hV
  have k0 := h0
  have lt0 : ∀ x ∈ p0, x.block < W.heap.size := by obtain ⟨m, hm⟩ := k0; exact DataW.trod_lt m _ _ _ hm
  have u0 := hval 0 25 v0 rfl rfl
  obtain ⟨pA, pn, pc, ps, sA, sn, sc, ss, rfl, hP, hS⟩ := arg_table u0 h0
  have k1 := h1
  have lt1 : ∀ x ∈ p1, x.block < W.heap.size := by obtain ⟨m, hm⟩ := k1; exact DataW.trod_lt m _ _ _ hm
  have u1 := hval 1 28 v1 rfl rfl
  obtain ⟨rA, rn, rc, rs, rfl, hR⟩ := arg_man u1 h1
  have k2 := h2
  have lt2 : ∀ x ∈ p2, x.block < W.heap.size := by obtain ⟨m, hm⟩ := k2; exact DataW.trod_lt m _ _ _ hm
  have u2 := hval 2 29 v2 rfl rfl
  obtain ⟨A2, n2, c2, l2, rfl, hd2, hc2, hm2, hA2⟩ := arg_dive u2 h2
  have k3 := h3
  have lt3 : ∀ x ∈ p3, x.block < W.heap.size := by obtain ⟨m, hm⟩ := k3; exact DataW.trod_lt m _ _ _ hm
  have u3 := hval 3 43 v3 rfl rfl
  obtain ⟨a3, b3, rfl, w3, x3⟩ := arg_span u3 h3
  clear hA0 hval0
  simp only [List.append_nil] at hW'
  refine (gasMoments_walk ⟨pA, sA, rA, pn, pc, sn, sc, rn, rc, ps, ss, rs⟩ A2 n2 c2 l2 hA2 a3 b3 W ⟨hP, hS, hR⟩ hd2).mono fun e W' ⟨he, bel⟩ => ?_
  subst he
  exact ⟨_, rfl, _, _, _, [], _, [], hW', trodAll_mk1 (shut_bool Tryz.underlying4 _), (trodAll_cons_mk (Below.trod laidOut (by kernel_rfl) (of_decide_eq_true (by kernel_rfl)) k0 bel lt0) (trodAll_cons_mk (Below.trod laidOut (by kernel_rfl) (of_decide_eq_true (by kernel_rfl)) k1 bel lt1) (trodAll_cons_mk (Below.trod laidOut (by kernel_rfl) (of_decide_eq_true (by kernel_rfl)) k2 bel lt2) (trodAll_cons_mk (Below.trod laidOut (by kernel_rfl) (of_decide_eq_true (by kernel_rfl)) k3 bel lt3) trodAll_mk0)))), rfl, bel.frame _, fun h => by cases h⟩

theorem row_holds : Rows.GasMomentsSaid :=
  OpenClaim.holds_of_wide 4 Tryz.f4 rfl rfl rfl rfl rfl rfl rfl ⟨rfl, rfl, rfl, rfl, rfl⟩ rfl rfl rfl rfl rfl (by kernel_rfl) Tryz.func4 (by kernel_rfl)
    (of_decide_eq_true (by kernel_rfl)) (by unfold Func.isWrapper; first | (rw [if_pos (by decide +kernel)]; kernel_rfl) | (rw [if_neg (by decide +kernel)]; exact ⟨rfl, rfl⟩))
    (fun os started H enc _ => lifted os started H enc)

theorem gasMoments_holds : Rows.GasMomentsCardSaid :=
  Claim7.holds_tied_plain_at .later [] [.data, .data, .data] true (true, "4fc05ff97337c211e58e94116c1afb33103fda01ac6f5a8902717e04a03fffff") true
    row_holds (fun _ h => by cases h) (by kernel_rfl) (fun _ h => by cases h) gasMoments_row_tie rfl ⟨rfl, rfl⟩ (by kernel_rfl) rfl
    (fun f fn hf hfn => by
      obtain rfl : f = 4 := Option.some.inj ((show Tryz.prog.funcNamed "bathyal/bathyallaw02.GasMoments" = some 4 by kernel_rfl).symm.trans hf) |>.symm
      obtain rfl : fn = Tryz.f4 := (Option.some.inj (Tryz.func4.symm.trans hfn)).symm
      exact ⟨by kernel_rfl, fun j t ht => by
        rw [Tryz.params4] at ht
        have hm : t ∈ [25, 28, 29, 43] := by simpa using Array.mem_of_getElem? ht
        have hall : ([25, 28, 29, 43].all fun u => !Tryz.prog.wantsStandIn u) = true := by kernel_rfl
        exact (show Tryz.prog.wantsStandIn t = false by simpa using List.all_eq_true.1 hall t hm)⟩)
    (by kernel_rfl)
#print axioms gasMoments_holds
end Go.Proofs.YtahochgbkhpefabGreatDoor.gasMoments
