/-
  The statement GasMore holds for every input: the law returns true and what came in reads as before.
-/
import Derived.Test.YtahochgbkhpefabGreatDoorMoreA
import Derived.Deep.Cut
import Derived.Deep.CutRange
import Derived.Test.YtahochgbkhpefabGreatDoorP11
import Derived.Test.YtahochgbkhpefabGreatDoorRows
import Derived.Test.YtahochgbkhpefabGreatDoorTie
import Derived.Test.YtahochgbkhpefabGreatDoorCards
import Derived.Test.YtahochgbkhpefabGreatDoorChecked
import Derived.ProofKit
import Derived.OpenShut
import Derived.LaidMore
import Derived.Stop.Joined
import Derived.SevenTiedAt
import Derived.Carry
namespace Go.Proofs
open Go.RowKit Go.Shelf Gas
attribute [local go_sem ↓] Go.wp_at_zero Go.wp_at_succ

set_option maxHeartbeats 4000000 in
set_option maxRecDepth 50000 in
theorem more_a (t : Tm) (A : Option Addr) (n c : Nat) (dive : List St) (hA : A = none → c = 0) (a b g : Int) (w : World) (hi : t.In w) (hd : SlOf St.cs 4 w A n dive) (hsm : t.Small) (hs : shortB t n = true) (hdb : definedB t.ps t.ss t.rs dive 0 = true)
    (ha : 0 ≤ a) (hab : a ≤ b) (hb : b ≤ 100) (hg : 0 ≤ g) (hg2 : g ≤ 20000) (hn4 : n ≤ 4) :
    Calls Tryz.prog 12 #[t.tab, t.man, .slice A n c, .int .i64 a, .int .i64 b, .int .i64 g] w fun e w' => e = .returned (.bool true) ∧ Below w.heap.size w w' := by
  have HSh := Lib.hid fun (W : World) => short_c t A n c W
  rw [hs] at HSh
  have HFi := Lib.hid fun (W : World) (hb : Below w.heap.size w W) => fine_c t hsm A n c dive (by omega) W (hi.keep hb) (hd.keep hb)
  rw [hdb] at HFi
  have E0 := Lib.hid (Bm.start w t)
  have n1 : ¬ a < 0 := by omega
  have n2 : ¬ a > b := by omega
  have n3 : ¬ b > 100 := by omega
  have n4 : ¬ g < 0 := by omega
  have n5 : ¬ g > 20000 := by omega
  have hdd := hdb
  simp only [definedB, tableB, manB, diveB, inB, Bool.and_eq_true, decide_eq_true_eq] at hdd
  have hpn : 1 ≤ t.pn ∧ t.pn ≤ 3 := by have := hi.ps.1; omega
  have hrn : t.rn = t.pn := by have := hi.ps.1; have := hi.rs.1; omega
  have HRt := Lib.hid (show ∀ p ∈ t.rs, rateB p = true from List.all_eq_true.1 hdd.1.2.2)
  have HPt := Lib.hid (show ∀ p ∈ t.ps, partB p = true from List.all_eq_true.1 hdd.1.1.1.2)
  have HSt := Lib.hid (show ∀ s ∈ dive, stageB s = true from List.all_eq_true.1 hdd.2.2)
  clear hdd
  obtain ⟨pA, sA, rA, pn, pc, sn, sc, rn, rc, ps, ss, rs⟩ := t
  simp only [Tm.tab, Tm.man] at *
  subst hrn
  obtain ⟨bp, op, rfl⟩ := hi.ps.addr (by simp only; omega)
  obtain ⟨br, orr, rfl⟩ := hi.rs.addr (by simp only; omega)
  have HDi := Lib.hid hd; have HDn := Lib.hid hd.1
  have HP := Lib.hid hi.ps; have HR := Lib.hid hi.rs; have HPn := Lib.hid hi.ps.1; have HRn := Lib.hid hi.rs.1
  simp only at HP HR HPn HRn
  go_enter Tryz.func12, Tryz.ntmps12
  go_wp2_with (first
    | (go_at_call 13; refine (HSh.out _).mono ?_; rintro e w13 ⟨rfl, hb⟩; have EE := Lib.hid (E0.out.keep hb); have ct := EE.out.tab.cell; have cm := EE.out.man.cell; clear hb)
    | (go_at_call 14; refine (HFi.out _ EE.out.below).mono ?_; rintro e w14 ⟨rfl, hb⟩; replace EE := Lib.hid (EE.out.keep hb); replace ct := EE.out.tab.cell; replace cm := EE.out.man.cell; clear hb))
  have hsz := EE.out.man.lt
  have hsz0 : w.heap.size < w14.heap.size := by omega
  have hsz2 : w.heap.size + 1 ≠ w14.heap.size := by omega
  have hsz3 : w.heap.size ≠ w14.heap.size := by omega
  have hsz4 : w.heap.size + 1 ≠ w14.heap.size + 1 := by omega
  have hsz5 : w.heap.size ≠ w14.heap.size + 1 := by omega
  go_cut [13, 14] from 66 to 67 (fun s1 s2 wx => ∃ g1 g2, s1 = .pointer (some ⟨g1, 0, none⟩) ∧ s2 = .pointer (some ⟨g2, 0, none⟩) ∧ Bn w ⟨some ⟨bp, op, none⟩, sA, some ⟨br, orr, none⟩, rn, pc, sn, sc, rn, rc, ps, ss, rs⟩ (.slice (some ⟨bp, op, none⟩) rn pc) (.slice (some ⟨br, orr, none⟩) rn rc) g1 g2 wx)
  case first =>
    have cf1 := EE.out.tab.frozen; have cf2 := EE.out.man.frozen
    go_region
    · go_wp2_with fail
      go_meet
      exact ⟨_, _, rfl, rfl, ⟨(newB (newB EE.out.below _) _).drew, (((EE.out.tab.alloc _).alloc _).drew), (((EE.out.man.alloc _).alloc _).drew)⟩, by omega, ((Has.new w14 25 _).alloc _).drew, (Has.new' _ 28 _ (by simp)).drew⟩
    · go_wp2_with fail
      go_meet
      exact ⟨_, _, rfl, rfl, ⟨(newB (newB EE.out.below _) _).drew, (((EE.out.tab.alloc _).alloc _).drew), (((EE.out.man.alloc _).alloc _).drew)⟩, by omega, (Has.new' _ 25 _ (by simp)).drew, ((Has.new w14 28 _).alloc _).drew⟩
  case rest =>
   obtain ⟨g1, g2, rfl, rfl, hN⟩ := hcut
   have NN := Lib.hid hN
   clear hN hsz hsz0 hsz2 hsz3 hsz4 hsz5 ct cm EE E0 HSh HFi
   go_wp2
   apply wp_loose 7 (.v (.pointer (some ⟨w.heap.size, 0, none⟩)) :: .v (.slice (some ⟨bp, op, none⟩) rn pc) :: .r (CopyR wc 77 rn ps) :: .v (.pointer (some ⟨w.heap.size + 1, 0, none⟩)) :: .v (.slice (some ⟨br, orr, none⟩) rn rc) :: .r (CopyR wc 43 rn rs) :: .v (.pointer (some ⟨g1, 0, none⟩)) :: []) (by kernel_rfl) (by kernel_rfl) (by kernel_rfl) (by decide) rfl
   intro K hK
   refine OblS.val (by kernel_rfl) (fun w' _ _ => (by kernel_rfl)) ?_
   refine OblS.val (by kernel_rfl) (fun w' hb _ => (by have := (NN.out.keep hb).base.tab.cell 0; go_simp; try rfl)) ?_
   refine ⟨CopyR.stable, fun w' hb _ => .inl ⟨by kernel_rfl, ?_⟩, fun v2 => ?_⟩
   · refine wp_copyP (T := 22) (E := 77) _ _ rfl Tryz.underlying22 info77 rfl bp op rn pc ps rfl (HP.out.keep (nextB NN.out.base.below hb)) (by omega) (by omega) ?_
     intro g cap w2 h1 h2 h3 hb2
     exact ⟨_, rfl, ⟨g, cap, rfl, Nat.le_trans hb.size h2, h3, h1⟩, hb2⟩
   refine OblS.val (by kernel_rfl) (fun w' _ _ => (by kernel_rfl)) ?_
   refine OblS.val (by kernel_rfl) (fun w' hb _ => (by have := (NN.out.keep hb).base.man.cell 0; go_simp; try rfl)) ?_
   refine ⟨CopyR.stable, fun w' hb _ => .inl ⟨by kernel_rfl, ?_⟩, fun v5 => ?_⟩
   · refine wp_copyP (T := 26) (E := 43) _ _ rfl Tryz.underlying26 info24 rfl br orr rn rc rs rfl (HR.out.keep (nextB NN.out.base.below hb)) (by omega) (by omega) ?_
     intro g cap w2 h1 h2 h3 hb2
     exact ⟨_, rfl, ⟨g, cap, rfl, Nat.le_trans hb.size h2, h3, h1⟩, hb2⟩
   refine OblS.val (by kernel_rfl) (fun w' _ _ => (by kernel_rfl)) ?_
   apply OblS.nil
   apply hK
   intro w5 hb hH
   obtain ⟨gr, cr, rfl, hgr, hcr, hRr⟩ := hH _ (List.mem_cons_self ..)
   obtain ⟨gp, cp, rfl, hgp, hcp, hRp⟩ := hH _ (List.mem_cons_of_mem _ (List.mem_cons_self ..))
   clear hH hK K
   simp only [Act.put, List.setIfInBounds_toArray, List.set_cons_zero, List.set_cons_succ, List.drop_succ_cons, List.drop_zero]
   have N5 := NN.out.keep hb
   have b1 : g1 < wc.heap.size := NN.out.tab.lt
   have b2 : g2 < wc.heap.size := NN.out.man.lt
   have b3 := NN.out.lo
   have b4 : g1 ≠ g2 := fun e => by
     have h1 := N5.tab; have h2 := N5.man
     rw [e] at h1
     have := h1.symm.trans h2
     simp at this
   have c1 := N5.tab.cell; have c2 := N5.man.cell; have f1 := N5.tab.frozen; have f2 := N5.man.frozen
   go_wp2
   have M0 := Lib.hid (show Bn w ⟨some ⟨bp, op, none⟩, sA, some ⟨br, orr, none⟩, rn, pc, sn, sc, rn, rc, ps, ss, rs⟩ (.slice (some ⟨gp, 0, none⟩) rn cp) (.slice (some ⟨gr, 0, none⟩) rn cr) g1 g2 ((w5.setCell ⟨g1, 0, none⟩ (.slice (some ⟨gp, 0, none⟩) rn cp)).setCell ⟨g2, 0, none⟩ (.slice (some ⟨gr, 0, none⟩) rn cr)) from
     ⟨⟨setB (setB N5.base.below (show w.heap.size ≤ g1 by omega) _) (show w.heap.size ≤ g2 by omega) _, (N5.base.tab.far (show w.heap.size ≠ g1 by omega) _).far (show w.heap.size ≠ g2 by omega) _, (N5.base.man.far (show w.heap.size + 1 ≠ g1 by omega) _).far (show w.heap.size + 1 ≠ g2 by omega) _⟩, b3, (N5.tab.set 0 _).far (show g1 ≠ g2 from b4) _, (N5.man.far (show g2 ≠ g1 from fun e => b4 e.symm) _).set 0 _⟩)
   have P0 := Lib.hid (show RowOf prC 2 ((w5.setCell ⟨g1, 0, none⟩ (.slice (some ⟨gp, 0, none⟩) rn cp)).setCell ⟨g2, 0, none⟩ (.slice (some ⟨gr, 0, none⟩) rn cr)) gp 77 rn (updL (easP g) 0 ps) from by rw [updL_zero]; exact (hRp.far (show gp ≠ g1 by omega) _).far (show gp ≠ g2 by omega) _)
   have R0 := Lib.hid (show RowOf prC 2 ((w5.setCell ⟨g1, 0, none⟩ (.slice (some ⟨gp, 0, none⟩) rn cp)).setCell ⟨g2, 0, none⟩ (.slice (some ⟨gr, 0, none⟩) rn cr)) gr 43 rn (updL (narP a b) 0 rs) from by rw [updL_zero]; exact (hRr.far (show gr ≠ g1 by omega) _).far (show gr ≠ g2 by omega) _)
   have hlo : w.heap.size ≤ gp ∧ w.heap.size ≤ gr := by omega
   have hx1 : g1 ≠ gp ∧ g1 ≠ gr ∧ g2 ≠ gp ∧ g2 ≠ gr ∧ w.heap.size ≠ gp ∧ w.heap.size ≠ gr ∧ w.heap.size + 1 ≠ gp ∧ w.heap.size + 1 ≠ gr := by omega
   clear hb hgr hgp hRr hRp N5 b1 b2 b3 b4 c1 c2 f1 f2 NN
   generalize (w5.setCell ⟨g1, 0, none⟩ (.slice (some ⟨gp, 0, none⟩) rn cp)).setCell ⟨g2, 0, none⟩ (.slice (some ⟨gr, 0, none⟩) rn cr) = w6 at *
   go_loopw [16] (fun v wr => ∃ k : Nat, k ≤ rn ∧ v = .int .i64 k ∧ Bn w ⟨some ⟨bp, op, none⟩, sA, some ⟨br, orr, none⟩, rn, pc, sn, sc, rn, rc, ps, ss, rs⟩ (.slice (some ⟨gp, 0, none⟩) rn cp) (.slice (some ⟨gr, 0, none⟩) rn cr) g1 g2 wr ∧ RowOf prC 2 wr gp 77 rn (updL (easP g) k ps) ∧ RowOf prC 2 wr gr 43 rn (updL (narP a b) k rs)) (fun v _ => rn - (intOf v).toNat)
   case atStart => exact ⟨0, by omega, rfl, M0.out, P0.out, R0.out⟩
   case round =>
     clear M0 P0 R0
     obtain ⟨k, hk, rfl, hM, hP, hR⟩ := hrel
     have MM := Lib.hid hM; have PP := Lib.hid hP; have RR := Lib.hid hR
     have c1 := hM.tab.cell
     clear hM hP hR
     by_cases hkn : k < rn
     · have hkp : k < ps.length := by rw [HPn.out]; exact hkn
       have hkr : k < rs.length := by rw [HRn.out]; exact hkn
       have hxp := List.getElem?_eq_getElem hkp
       have hxr := List.getElem?_eq_getElem hkr
       have hp := HPt.out _ (List.getElem_mem hkp)
       have hr := HRt.out _ (List.getElem_mem hkr)
       obtain ⟨p, hpp⟩ : ∃ p, p = ps[k] := ⟨_, rfl⟩
       obtain ⟨r, hrr⟩ : ∃ r, r = rs[k] := ⟨_, rfl⟩
       rw [← hpp] at hxp hp
       rw [← hrr] at hxr hr
       clear hpp hrr hkp hkr
       obtain ⟨p1, p2⟩ := p
       obtain ⟨r1, r2⟩ := r
       simp only [partB, inB, Bool.and_eq_true, decide_eq_true_eq] at hp
       simp only [rateB, ordB, decide_eq_true_eq] at hr
       have HSp := Lib.hid (updL_set (f := easP g) hxp); have HSr := Lib.hid (updL_set (f := narP a b) hxr)
       have hgp := updL_get (f := easP g) hxp; have hgr := updL_get (f := narP a b) hxr
       have e1 : IntKind.i64.wrap (p1 + g) = p1 + g := wI (by omega) (by omega)
       have CP := Lib.hid fun (W : World) (hb : Below wr.heap.size wr W) => (show W.cell? ⟨gp, k * 2, none⟩ = some (.int .i64 p1) by simpa using (((PP.out.keep hb).sl prC_len).range prC_len hgp) 0 _ rfl)
       have CM := Lib.hid fun (W : World) (hb : Below wr.heap.size wr W) => (show W.cell? ⟨g1, 0, none⟩ = some (.slice (some ⟨gp, 0, none⟩) rn cp) by simpa using (MM.out.keep hb).tab.cell 0)
       go_wp2
       refine wp_free 12 (by kernel_rfl) (by kernel_rfl) (by kernel_rfl) (by decide) ?_
       intro K hK
       iterate 12 (apply Obl.val (by decide) (by kernel_rfl); (intro w' hb; have := CP.out w' hb; have := CM.out w' hb; go_simp; try rfl))
       apply Obl.nil
       apply hK
       intro w7 hb
       simp only [Act.put, List.setIfInBounds_toArray, List.set_cons_zero, List.set_cons_succ, List.drop_succ_cons, List.drop_zero]
       clear hK K c1 CM CP
       have M7 := MM.out.keep hb; have P7 := PP.out.keep hb; have R7 := RR.out.keep hb
       obtain ⟨cur, hcur, hcl, hcs⟩ := id P7
       have cc : w7.cell? ⟨gp, k * 2, none⟩ = some (.int .i64 p1) := by rw [hcur.cell]; exact (RowOf.pairs (w := w) (g := gp) (n := rn) (t := 77) hcs hgp).1
       have cf : w7.frozen? ⟨gp, k * 2, none⟩ = false := hcur.frozen _
       clear hcur hcl hcs cur
       go_wp2
       obtain ⟨x1, x2, x3, x4, x5, x6, x7, x8⟩ := hx1
       have hgrp : gr ≠ gp := fun e => by
         obtain ⟨q1, q2, _⟩ := P7; obtain ⟨q3, q4, _⟩ := R7
         rw [e] at q4
         have := q2.symm.trans q4
         simp at this
       have M8 := Lib.hid (M7.far (p := ⟨gp, k * 2, none⟩) hlo.1 x5 x7 x1 x3 (.int .i64 (min 20000 (p1 + g))))
       have P8 := Lib.hid (show RowOf prC 2 (w7.setCell ⟨gp, k * 2, none⟩ (.int .i64 (min 20000 (p1 + g)))) gp 77 rn (updL (easP g) (k + 1) ps) by rw [← HSp.out]; exact P7.setA hgp _)
       have R8 := Lib.hid (R7.far (p := ⟨gp, k * 2, none⟩) hgrp (.int .i64 (min 20000 (p1 + g))))
       clear M7 P7 R7 cc cf hb MM PP RR HSp hgp
       generalize w7.setCell ⟨gp, k * 2, none⟩ (.int .i64 (min 20000 (p1 + g))) = w8 at *
       have CR := Lib.hid fun (W : World) (hb : Below w8.heap.size w8 W) => (show W.cell? ⟨gr, k * 2, none⟩ = some (.int .i64 r1) ∧ W.cell? ⟨gr, k * 2 + 1, none⟩ = some (.int .i64 r2) from ⟨by simpa using (((R8.out.keep hb).sl prC_len).range prC_len hgr) 0 _ rfl, by simpa using (((R8.out.keep hb).sl prC_len).range prC_len hgr) 1 _ rfl⟩)
       have CM := Lib.hid fun (W : World) (hb : Below w8.heap.size w8 W) => (show W.cell? ⟨g2, 0, none⟩ = some (.slice (some ⟨gr, 0, none⟩) rn cr) by simpa using (M8.out.keep hb).man.cell 0)
       have HNa := Lib.hid fun (W : World) => narrow_l r1 r2 a b (by omega) (by omega) W
       refine wp_free 11 (by kernel_rfl) (by kernel_rfl) (by kernel_rfl) (by decide) ?_
       intro K hK
       iterate 7 (apply Obl.val (by decide) (by kernel_rfl); (intro w' hb; have := CM.out w' hb; go_simp; try rfl))
       (apply Obl.val (v := .agg #[.int .i64 r1, .int .i64 r2]) (by decide) (by kernel_rfl); (intro w' hb; obtain ⟨_, _⟩ := CR.out w' hb; go_simp; try rfl))
       iterate 2 (apply Obl.val (by decide) (by kernel_rfl); (intro w' hb; go_simp; try rfl))
       apply Obl.call (by decide) rfl; (intro w' hb; go_simp; exact ⟨rfl, rfl⟩); (intro w' hb; exact HNa.out w')
       apply Obl.nil
       apply hK
       intro w9 hb
       simp only [Act.put, List.setIfInBounds_toArray, List.set_cons_zero, List.set_cons_succ, List.drop_succ_cons, List.drop_zero]
       clear hK K CM CR HNa
       have M9 := M8.out.keep hb; have P9 := P8.out.keep hb; have R9 := R8.out.keep hb
       obtain ⟨cur, hcur, hcl, hcs⟩ := R9
       obtain ⟨hcz, hR10⟩ := RowOf.setP hcur hcl hcs hgr (narP a b (r1, r2))
       rw [HSr.out] at hR10
       have HCz := Lib.hid hcz; have HCu := Lib.hid hcur; have R10 := Lib.hid hR10
       have M10 := Lib.hid (M9.farRow hlo.2 x6 x8 x2 x4 (over cur (k * 2) #[.int .i64 (narP a b (r1, r2)).1, .int .i64 (narP a b (r1, r2)).2]))
       have P10 := Lib.hid (P9.setRow_far (show gp ≠ gr from fun e => hgrp e.symm) (over cur (k * 2) #[.int .i64 (narP a b (r1, r2)).1, .int .i64 (narP a b (r1, r2)).2]))
       clear hcur hcl hcs hcz hR10 hgr HSr M9 P9 M8 P8 R8 hb
       go_wp2_with (refine wpList_store_part rfl 43 _ _ rfl gr (k * 2) rfl _ rfl 43 cur HCu.out (by kernel_rfl) HCz.out (by simp [Value.oneCell']) ?_)
       go_roundw
       case rel => exact ⟨k + 1, by omega, by go_num, M10.out, P10.out, R10.out⟩
       case measure => first | (simp [intOf]; done) | (simp [intOf]; omega)
     · have hke : rn = k := by omega
       have hP2 := PP.out; have hR2 := RR.out
       rw [updL_full (by rw [HPn.out]; omega)] at hP2
       rw [updL_full (by rw [HRn.out]; omega)] at hR2
       have P2 := Lib.hid hP2; have R2 := Lib.hid hR2
       subst hke
       clear hP2 hR2 PP RR hx1
       go_wp2
       obtain ⟨wo, rfl⟩ : ∃ wo : World, wo = wr := ⟨_, rfl⟩
       have O0 := Lib.hid (show wo.ownsRow wo.heap.size 80 4 (.slice none 0 0) 0 (flat St.cs ((dive.take 0).map (narS a b))) from World.ownsRow_nil _ _ _ _)
       go_loopw [15, 17] (fun v i wr => ∃ k : Nat, k ≤ n ∧ i = .int .i64 k ∧ wr.ownsRow wo.heap.size 80 4 v k (flat St.cs ((dive.take k).map (narS a b))) ∧ Below wo.heap.size wo wr) (fun _ i _ => n - (intOf i).toNat)
       case atStart => exact ⟨0, by omega, rfl, O0.out, Below.refl _ _⟩
       case round =>
         clear O0
         obtain ⟨k, hk, rfl, hO, hB⟩ := hrel
         have OO := Lib.hid hO; have HB := Lib.hid hB
         clear hO hB
         by_cases hkn : k < n
         · have hkl : k < dive.length := by rw [HDn.out]; exact hkn
           obtain ⟨bd, od, rfl⟩ := HDi.out.addr (by omega)
           have hx := List.getElem?_eq_getElem hkl
           have hs0 := HSt.out _ (List.getElem_mem hkl)
           have HTk := Lib.hid (List.take_append_getElem hkl)
           obtain ⟨s, hss⟩ : ∃ s, s = dive[k] := ⟨_, rfl⟩
           rw [← hss] at hx hs0 HTk
           have HTs := Lib.hid (show (dive.take (k + 1)).map (narS a b) = (dive.take k).map (narS a b) ++ [narS a b s] by rw [← HTk.out]; simp)
           have hor := stage_ord hs0
           have CS := Lib.hid fun (W : World) (hb : Below wr.heap.size wr W) => ((HDi.out.keep (nextB (nextB MM.out.base.below HB.out) hb)).range St.cs_len hx)
           clear hx hss hkl hs0 HTk
           obtain ⟨dl, dh, ml, mh⟩ := s
           simp only at hor
           have CD := Lib.hid fun (W : World) (hb : Below wr.heap.size wr W) => (show W.cell? ⟨bd, od + k * 4, none⟩ = some (.int .i64 dl) ∧ W.cell? ⟨bd, od + k * 4 + 1, none⟩ = some (.int .i64 dh) ∧ W.cell? ⟨bd, od + k * 4 + 2, none⟩ = some (.int .i64 ml) ∧ W.cell? ⟨bd, od + k * 4 + 2 + 1, none⟩ = some (.int .i64 mh) from ⟨by simpa using CS.out W hb 0 _ rfl, CS.out W hb 1 _ rfl, CS.out W hb 2 _ rfl, CS.out W hb 3 _ rfl⟩)
           have HN1 := Lib.hid fun (W : World) => narrow_l dl dh a b (by omega) (by omega) W
           have HN2 := Lib.hid fun (W : World) => narrow_l ml mh a b (by omega) (by omega) W
           have HNs := Lib.hid (show narS a b ⟨dl, dh, ml, mh⟩ = ⟨(narP a b (dl, dh)).1, (narP a b (dl, dh)).2, (narP a b (ml, mh)).1, (narP a b (ml, mh)).2⟩ from rfl)
           rw [HNs.out] at HTs
           clear CS hor HNs
           generalize narP a b (dl, dh) = q1 at *
           generalize narP a b (ml, mh) = q2 at *
           obtain ⟨e1, e2⟩ := q1
           obtain ⟨e3, e4⟩ := q2
           go_wp2
           apply wp_loose 19 (.v _ :: .v _ :: .v _ :: .v _ :: .v _ :: .v _ :: .v _ :: .v _ :: .v _ :: .v _ :: .v _ :: .v _ :: .v _ :: .v _ :: .v _ :: .v _ :: .v _ :: .v _ :: .r (fun v w' => ∃ B, v = .slice (some ⟨B, 0, none⟩) 1 1 ∧ Has w' B 80 #[.int .i64 e1, .int .i64 e2, .int .i64 e3, .int .i64 e4]) :: []) (by kernel_rfl) (by kernel_rfl) (by kernel_rfl) (by decide) rfl
           intro K hK
           iterate 5 (apply OblS.val (by kernel_rfl); focus (intro w' hb _; go_simp; try rfl))
           (apply OblS.val (v := .agg #[.int .i64 dl, .int .i64 dh]) (by kernel_rfl); focus (intro w' hb _; obtain ⟨_, _, _, _⟩ := CD.out w' hb; go_simp; try rfl))
           iterate 2 (apply OblS.val (by kernel_rfl); focus (intro w' hb _; go_simp; try rfl))
           (apply OblS.call (v := .agg #[.int .i64 e1, .int .i64 e2]) 39 (by kernel_rfl); focus (intro w' hb _; apply Exists.intro; apply And.intro; (go_simp; rfl); exact HN1.out w'))
           iterate 4 (apply OblS.val (by kernel_rfl); focus (intro w' hb _; go_simp; try rfl))
           (apply OblS.val (v := .agg #[.int .i64 ml, .int .i64 mh]) (by kernel_rfl); focus (intro w' hb _; obtain ⟨_, _, _, _⟩ := CD.out w' hb; go_simp; try rfl))
           iterate 2 (apply OblS.val (by kernel_rfl); focus (intro w' hb _; go_simp; try rfl))
           (apply OblS.call (v := .agg #[.int .i64 e3, .int .i64 e4]) 39 (by kernel_rfl); focus (intro w' hb _; apply Exists.intro; apply And.intro; (go_simp; rfl); exact HN2.out w'))
           (apply OblS.val (v := .agg #[.int .i64 e1, .int .i64 e2, .int .i64 e3, .int .i64 e4]) (by kernel_rfl); focus (intro w' hb _; go_simp; try rfl))
           refine OblS.run (by rintro v x y ⟨B, e, h⟩ hb; exact ⟨B, e, h.after hb⟩) (by kernel_rfl) (fun w' hb _ => ⟨_, _, (by kernel_rfl), ⟨w'.heap.size, rfl, Has.new w' 80 _⟩, newB (Below.refl _ _) _⟩) ?_
           intro v18
           apply OblS.nil
           apply hK
           intro w5 hb hH
           obtain ⟨B, rfl, hBB⟩ := hH _ (List.mem_cons_self ..)
           have HBB := Lib.hid hBB; have HB5 := Lib.hid (HB.out.trans (hb.mono HB.out.size)); have OO5 := Lib.hid (owns_keep OO.out hb)
           clear hH hK K hBB hb HN1 HN2 CD
           simp only [Act.put, List.setIfInBounds_toArray, List.set_cons_zero, List.set_cons_succ, List.drop_succ_cons, List.drop_zero]
           go_wp2_with (at_builtin; refine wpList_app54 rfl _ _ rfl wo.heap.size u15 k ((dive.take k).map (narS a b)) rfl OO5.out (some ⟨B, 0, none⟩) 1 1 [⟨e1, e2, e3, e4⟩] rfl (by intro h; cases h) (SlOf.of_cells St.cs_len HBB.out rfl rfl) (by omega) HB5.out.size ?_; intro v3 w3 ho3 hb3; have HO3 := Lib.hid ho3; have HB3 := Lib.hid (HB5.out.trans hb3); clear ho3 hb3)
           go_roundw
           case rel => exact ⟨k + 1, by omega, by go_num, by rw [HTs.out]; exact HO3.out, HB3.out⟩
           case measure => first | (simp [intOf]; done) | (simp [intOf]; omega)
         · have hkn2 : n = k := by omega
           subst hkn2
           have ho := OO.out
           rw [List.take_of_length_le (by rw [HDn.out]; exact Nat.le_refl _)] at ho
           obtain ⟨A', c', rfl, hd', hA'⟩ := owns_form ho (by simpa using HDn.out)
           have HD' := Lib.hid hd'; have HA' := Lib.hid hA'
           have M2 := Lib.hid (MM.out.keep HB.out)
           have PS2 := Lib.hid ((P2.out.keep HB.out).sl prC_len); have RS2 := Lib.hid ((R2.out.keep HB.out).sl prC_len)
           have hss := hi.ss
           simp only at hss
           have HSS := Lib.hid hss
           obtain ⟨t', ht'⟩ : ∃ t' : Tm, t' = ⟨some ⟨gp, 0, none⟩, sA, some ⟨gr, 0, none⟩, rn, cp, sn, sc, rn, cr, ps.map (easP g), ss, rs.map (narP a b)⟩ := ⟨_, rfl⟩
           obtain ⟨t, ht⟩ : ∃ t : Tm, t = ⟨some ⟨bp, op, none⟩, sA, some ⟨br, orr, none⟩, rn, pc, sn, sc, rn, rc, ps, ss, rs⟩ := ⟨_, rfl⟩
           have hpl : t.ps.length = t.pn := by rw [ht]; exact HPn.out
           have hdbt : definedB t.ps t.ss t.rs dive 0 = true := by rw [ht]; exact hdb
           have hdbt' : definedB t'.ps t'.ss t'.rs (dive.map (narS a b)) 0 = true := by rw [ht']; exact more_def ha hab hb hg hdb
           have hms : MoreSem t t' dive (dive.map (narS a b)) := more_close ha hab hb hg hdbt hpl (by rw [ht, ht']) (by rw [ht, ht']) (by rw [ht, ht']) (by rw [ht, ht'])
           have hsmt : t.Small := by rw [ht]; exact hsm
           have hsmt' : t'.Small := by rw [ht']; exact ⟨hsm.p, hsm.s, hsm.r⟩
           have hin : t.In w := by rw [ht]; exact hi
           have hin' : t'.In wr := by rw [ht']; exact ⟨PS2.out, HSS.out.keep M2.out.base.below, RS2.out⟩
           have hpn' : t'.pn = rn := by rw [ht']
           have hpn2 : t.pn = rn := by rw [ht]
           have e1 : t.tab = .agg #[.slice (some ⟨bp, op, none⟩) rn pc, .slice sA sn sc] := by rw [ht]; rfl
           have e2 : t.man = .agg #[.slice (some ⟨br, orr, none⟩) rn rc] := by rw [ht]; rfl
           have e3 : t'.tab = .agg #[.slice (some ⟨gp, 0, none⟩) rn cp, .slice sA sn sc] := by rw [ht']; rfl
           have e4 : t'.man = .agg #[.slice (some ⟨gr, 0, none⟩) rn cr] := by rw [ht']; rfl
           have hdl : dive.length = n := HDn.out
           have HK1 := Lib.hid fun (W : World) (hb : Below w.heap.size w W) => known_lists hsmt A n c dive hA (by omega) W (hin.keep hb) (HDi.out.keep hb) hdbt
           have HK2 := Lib.hid fun (W : World) (hb : Below wr.heap.size wr W) => known_lists hsmt' A' n c' (dive.map (narS a b)) HA'.out (by omega) W (hin'.keep hb) (HD'.out.keep hb) hdbt'
           have HS1 := Lib.hid fun (W : World) (hb : Below w.heap.size w W) => Surely_c t hsmt A n c dive (by omega) W (hin.keep hb) (HDi.out.keep hb)
           have HS2 := Lib.hid fun (W : World) (hb : Below wr.heap.size wr W) => Surely_c t' hsmt' A' n c' (dive.map (narS a b)) (by omega) W (hin'.keep hb) (HD'.out.keep hb)
           have HT1 := Lib.hid fun (W : World) (hb : Below w.heap.size w W) => Stop_c t hsmt A n c dive (by omega) W (hin.keep hb) (HDi.out.keep hb)
           have HT2 := Lib.hid fun (W : World) (hb : Below wr.heap.size wr W) => Stop_c t' hsmt' A' n c' (dive.map (narS a b)) (by omega) W (hin'.keep hb) (HD'.out.keep hb)
           have HST := Lib.hid fun (h4 : n < 4) => stops_two hdbt hdbt' (by simp) hms (by omega)
           rw [show sureF t dive = (keptF t (h0, true) dive, 0) by simp [sureF, hdbt]] at HS1
           rw [show sureF t' (dive.map (narS a b)) = (keptF t' (h0, true) (dive.map (narS a b)), 0) by simp [sureF, hdbt']] at HS2
           rw [e1, e2] at HK1 HS1 HT1
           rw [e3, e4] at HK2 HS2 HT2
           rw [hpn2] at HK1
           rw [hpn'] at HK2
           have HKs := Lib.hid hms.sure
           have HKl := Lib.hid hms.len
           have HKn := Lib.hid hms.known
           rw [hpn2, hpn', hdl] at HKl HKn
           clear hms hsmt hsmt' hin hin' hdbt hdbt' hpl e1 e2 e3 e4 hpn' hpn2 hss HSS PS2 RS2 HD' HA' HP HR hi hsm hdb ho hd' hA' OO MM P2 R2 HB HSt HRt HPt
           generalize keptF t (h0, true) dive = kf at *
           generalize keptF t' (h0, true) (dive.map (narS a b)) = kf' at *
           generalize stopF t dive = sf at *
           generalize stopF t' (dive.map (narS a b)) = sf' at *
           generalize knownL t.ps t.rs rn (h0, true) (dive ++ [st0]) = xss at *
           generalize knownL t'.ps t'.rs rn (h0, true) (dive.map (narS a b) ++ [st0]) = xss' at *
           clear ht ht' t t' HDi HDn hd hs hA
           obtain ⟨wp, rfl⟩ : ∃ wp : World, wp = wr := ⟨_, rfl⟩
           have BB := Lib.hid (Below.refl wp.heap.size wp)
           have ct := M2.out.base.tab.cell; have cm := M2.out.base.man.cell; have cn := M2.out.tab.cell; have co := M2.out.man.cell
           go_upto_region 16 with (go_at_call 32; refine (HK1.out _ M2.out.base.below).mono ?_; rintro e wA ⟨A1, c1, rfl, hl, hb⟩; have L1 := Lib.hid hl; have M3 := Lib.hid (M2.out.keep hb); replace BB := Lib.hid (nextB BB.out hb); replace ct := M3.out.base.tab.cell; replace cm := M3.out.base.man.cell; replace cn := M3.out.tab.cell; replace co := M3.out.man.cell; clear hl hb M2)
           go_upto_region 17 with (go_at_call 32; refine (HK2.out _ BB.out).mono ?_; rintro e wB ⟨A2, c2, rfl, hl, hb⟩; have L2 := Lib.hid hl; replace L1 := Lib.hid (L1.out.keep hb); have M4 := Lib.hid (M3.out.keep hb); replace BB := Lib.hid (nextB BB.out hb); replace ct := M4.out.base.tab.cell; replace cm := M4.out.base.man.cell; replace cn := M4.out.tab.cell; replace co := M4.out.man.cell; clear hl hb M3)
           go_upto_region 18 with (go_at_call 17; refine (HS1.out _ M4.out.base.below).mono ?_; rintro e wC ⟨rfl, hb⟩; replace L1 := Lib.hid (L1.out.keep hb); replace L2 := Lib.hid (L2.out.keep hb); have M5 := Lib.hid (M4.out.keep hb); replace BB := Lib.hid (nextB BB.out hb); replace ct := M5.out.base.tab.cell; replace cm := M5.out.base.man.cell; replace cn := M5.out.tab.cell; replace co := M5.out.man.cell; clear hb M4)
           go_upto_region 19 with (go_at_call 17; refine (HS2.out _ BB.out).mono ?_; rintro e wD ⟨rfl, hb⟩; replace L1 := Lib.hid (L1.out.keep hb); replace L2 := Lib.hid (L2.out.keep hb); have M6 := Lib.hid (M5.out.keep hb); replace BB := Lib.hid (nextB BB.out hb); replace ct := M6.out.base.tab.cell; replace cm := M6.out.base.man.cell; replace cn := M6.out.tab.cell; replace co := M6.out.man.cell; clear hb M5)
           have q1 : IntKind.i64.wrap ((n : Int) + 1) = (n : Int) + 1 := wI (by omega) (by omega)
           go_cut [198] from 163 to 198 (fun s wx => s = .bool false ∧ wD = wx)
           case first =>
             have hks := HKs.out
             cases kf
             · go_wp2_with fail
               go_meet
               exact ⟨rfl, rfl⟩
             · have hk := hks rfl
               subst hk
               go_wp2_with fail
               go_meet
               exact ⟨rfl, rfl⟩
           case rest =>
            obtain ⟨rfl, rfl⟩ := hcut
            clear HKs HK1 HK2 HS1 HS2 ct cm cn co
            go_wp2
            obtain ⟨wo, rfl⟩ : ∃ wo : World, wo = wD := ⟨_, rfl⟩
            go_loopw [26] (fun v wr => ∃ i : Nat, i ≤ n + 1 ∧ v = .int .i64 i ∧ Below wo.heap.size wo wr) (fun v _ => n + 1 - (intOf v).toNat)
            case atStart => exact ⟨0, by omega, rfl, Below.refl _ _⟩
            case round =>
              obtain ⟨i, hii, rfl, hB⟩ := hrel
              have HB := Lib.hid hB
              clear hB
              by_cases hin : i < n + 1
              · have hin2 : (i : Int) < (n : Int) + 1 := by omega
                obtain ⟨sp, sp', hsp, hsp', hspk⟩ := HKn.out i (by omega)
                have HSpk := Lib.hid hspk
                obtain ⟨gA, D1, rfl, hc1, hs1⟩ := (L1.out.keep HB.out).at2 hsp HKl.out.1
                obtain ⟨gB, D2, rfl, hc2, hs2⟩ := (L2.out.keep HB.out).at2 hsp' HKl.out.2
                have C1 := Lib.hid fun (W : World) (hb : Below wr.heap.size wr W) => ccell hb hc1
                have C2 := Lib.hid fun (W : World) (hb : Below wr.heap.size wr W) => ccell hb hc2
                have HS1 := Lib.hid hs1; have HS2 := Lib.hid hs2
                have CT := Lib.hid fun (W : World) (hb : Below wr.heap.size wr W) => (M6.out.keep (HB.out.trans (hb.mono HB.out.size))).base.tab.cell
                clear hspk hsp hsp' hc1 hc2 hs1 hs2
                go_wp2
                refine wp_free 20 (by kernel_rfl) (by kernel_rfl) (by kernel_rfl) (by decide) ?_
                intro K hK
                iterate 8 (apply Obl.val (by decide) (by kernel_rfl); (intro w' hb; have := C1.out w' hb; have := CT.out w' hb; go_simp; try rfl))
                iterate 2 (apply Obl.val (v := .bool false) (by decide) (by kernel_rfl); (focus (intro w' hb; go_simp; try (first | rfl | omega | (simp; done)))))
                iterate 8 (apply Obl.val (by decide) (by kernel_rfl); (intro w' hb; have := C2.out w' hb; have := CT.out w' hb; go_simp; try rfl))
                iterate 2 (apply Obl.val (v := .bool false) (by decide) (by kernel_rfl); (focus (intro w' hb; go_simp; try (first | rfl | omega | (simp; done)))))
                apply Obl.nil
                apply hK
                intro w7 hb
                simp only [Act.put, List.setIfInBounds_toArray, List.set_cons_zero, List.set_cons_succ, List.drop_succ_cons, List.drop_zero]
                clear hK K
                have HB7 := Lib.hid hb
                clear hb
                go_wp2
                obtain ⟨wq, rfl⟩ : ∃ wq : World, wq = wr := ⟨_, rfl⟩
                go_loopw [27] (fun v wr => ∃ k : Nat, k ≤ rn ∧ v = .int .i64 k ∧ Below wq.heap.size wq wr) (fun v _ => rn - (intOf v).toNat)
                case atStart => exact ⟨0, by omega, rfl, HB7.out⟩
                case round =>
                  clear HB7
                  obtain ⟨k, hk, rfl, hB7⟩ := hrel
                  have HB7 := Lib.hid hB7
                  have c1 := C1.out wr hB7
                  clear hB7
                  by_cases hkn : k < rn
                  · obtain ⟨lo, hh, lo', hh', hpk, hpk', hlo, hhi⟩ := HSpk.out k hkn
                    have CD := Lib.hid fun (W : World) (hb : Below wq.heap.size wq W) => (show W.cell? ⟨D1, k * 2, none⟩ = some (.int .i64 lo) ∧ W.cell? ⟨D1, k * 2 + 1, none⟩ = some (.int .i64 hh) from ⟨by simpa using ((HS1.out.keep hb).range prC_len hpk) 0 _ rfl, by simpa using ((HS1.out.keep hb).range prC_len hpk) 1 _ rfl⟩)
                    have CE := Lib.hid fun (W : World) (hb : Below wq.heap.size wq W) => (show W.cell? ⟨D2, k * 2, none⟩ = some (.int .i64 lo') ∧ W.cell? ⟨D2, k * 2 + 1, none⟩ = some (.int .i64 hh') from ⟨by simpa using ((HS2.out.keep hb).range prC_len hpk') 0 _ rfl, by simpa using ((HS2.out.keep hb).range prC_len hpk') 1 _ rfl⟩)
                    clear hpk hpk'
                    have hn1 : ¬ lo' < lo := by omega
                    have hn2 : ¬ hh' > hh := by omega
                    go_wp2
                    refine wp_free 36 (by kernel_rfl) (by kernel_rfl) (by kernel_rfl) (by decide) ?_
                    intro K hK
                    iterate 16 (apply Obl.val (by decide) (by kernel_rfl); (intro w' hb; have := C1.out w' (nextB HB7.out hb); have := C2.out w' (nextB HB7.out hb); obtain ⟨f1, f2⟩ := CD.out w' (nextB HB7.out hb); obtain ⟨f3, f4⟩ := CE.out w' (nextB HB7.out hb); go_simp; try rfl))
                    iterate 2 (apply Obl.val (v := .bool false) (by decide) (by kernel_rfl); (focus (intro w' hb; go_simp; try (first | rfl | omega | (simp; omega)))))
                    iterate 16 (apply Obl.val (by decide) (by kernel_rfl); (intro w' hb; have := C1.out w' (nextB HB7.out hb); have := C2.out w' (nextB HB7.out hb); obtain ⟨f1, f2⟩ := CD.out w' (nextB HB7.out hb); obtain ⟨f3, f4⟩ := CE.out w' (nextB HB7.out hb); go_simp; try rfl))
                    iterate 2 (apply Obl.val (v := .bool false) (by decide) (by kernel_rfl); (focus (intro w' hb; go_simp; try (first | rfl | omega | (simp; omega)))))
                    apply Obl.nil
                    apply hK
                    intro w8 hb
                    simp only [Act.put, List.setIfInBounds_toArray, List.set_cons_zero, List.set_cons_succ, List.drop_succ_cons, List.drop_zero]
                    clear hK K
                    have HB8 := Lib.hid (nextB HB7.out hb)
                    clear hb
                    go_wp2
                    go_roundw
                    case rel => exact ⟨k + 1, by omega, by go_num, HB8.out⟩
                    case measure => first | (simp [intOf]; done) | (simp [intOf]; omega)
                  · have hke : rn = k := by omega
                    subst hke
                    go_wp2
                    go_roundw
                    case rel => exact ⟨i + 1, by omega, by go_num, HB.out.trans (HB7.out.mono HB.out.size)⟩
                    case measure => first | (simp [intOf]; done) | (simp [intOf]; omega)
              · have hie : n + 1 = i := by omega
                subst hie
                have M7 := Lib.hid (M6.out.keep HB.out)
                replace BB := Lib.hid (nextB BB.out HB.out)
                have ct := M7.out.base.tab.cell; have cm := M7.out.base.man.cell; have cn := M7.out.tab.cell; have co := M7.out.man.cell
                clear HB L1 L2 HKl HKn M6
                by_cases hge : n ≥ 4
                · go_wp2_with (go_at_call 15; refine (knownLaw_c _).mono ?_; rintro e w15 ⟨rfl, hb⟩; have HK := Lib.hid (nextB M7.out.base.below hb); clear hb)
                  exact bodyPost_ret (results_tmp rfl _ _ _) rfl ⟨rfl, HK.out⟩
                · have hst := HST.out (by omega)
                  clear HST
                  rcases hst with ⟨d', m', e', r1, r2, r3⟩ | ⟨d, m, d', m', r1, r2, r3⟩
                  · rw [r1, show stE ((0, 0), 5) = .tuple #[.agg #[.int .i64 0, .int .i64 0], .int .i64 5] from rfl] at HT1
                    rw [r2, show stE ((d', m'), e') = .tuple #[.agg #[.int .i64 d', .int .i64 m'], .int .i64 e'] from rfl] at HT2
                    clear r1 r2
                    rcases r3 with rfl | rfl
                    all_goals
                      go_upto_region 34 with (go_at_call 16; refine (HT1.out _ M7.out.base.below).mono ?_; rintro e wE ⟨rfl, hb⟩; have M8 := Lib.hid (M7.out.keep hb); replace BB := Lib.hid (nextB BB.out hb); replace ct := M8.out.base.tab.cell; replace cm := M8.out.base.man.cell; replace cn := M8.out.tab.cell; replace co := M8.out.man.cell; clear hb)
                      have X1 := Lib.hid (Has.new wE 31 #[.int .i64 0, .int .i64 0])
                      have M9 := Lib.hid (M8.out.keep (newB (Below.refl _ _) (.cells #[.int .i64 0, .int .i64 0] 31))); have BB9 := Lib.hid (newB BB.out (.cells #[.int .i64 0, .int .i64 0] 31))
                      clear ct cm cn co M7 M8 BB
                      have ct := M9.out.base.tab.cell; have cm := M9.out.base.man.cell; have cn := M9.out.tab.cell; have co := M9.out.man.cell
                      generalize hgE : wE.heap.size = gE at *
                      clear hgE
                      generalize wE.alloc (.cells #[.int .i64 0, .int .i64 0] 31) = wG at *
                      go_upto_region 35 with (go_at_call 16; refine (HT2.out _ BB9.out).mono ?_; rintro e wF ⟨rfl, hb⟩; have X2 := Lib.hid ((X1.out.after hb).alloc (.cells #[.int .i64 d', .int .i64 m'] 31)); have X3 := Lib.hid (Has.new wF 31 #[.int .i64 d', .int .i64 m']); have B10 := Lib.hid (newB (nextB M9.out.base.below hb) (.cells #[.int .i64 d', .int .i64 m'] 31)); clear hb)
                      clear ct cm cn co M9 BB9 X1
                      have cx := X2.out.cell; have cy := X3.out.cell
                      generalize wF.heap.size = gF at *
                      generalize wF.alloc (.cells #[.int .i64 d', .int .i64 m'] 31) = wH at *
                      go_wp2_with (go_at_call 15; refine (knownLaw_c _).mono ?_; rintro e w15 ⟨rfl, hb⟩; have HK := Lib.hid (nextB B10.out hb); clear hb)
                      exact bodyPost_ret (results_tmp rfl _ _ _) rfl ⟨rfl, HK.out⟩
                  · rw [r1, show stE ((d, m), 0) = .tuple #[.agg #[.int .i64 d, .int .i64 m], .int .i64 0] from rfl] at HT1
                    rw [r2, show stE ((d', m'), 0) = .tuple #[.agg #[.int .i64 d', .int .i64 m'], .int .i64 0] from rfl] at HT2
                    clear r1 r2
                    go_upto_region 34 with (go_at_call 16; refine (HT1.out _ M7.out.base.below).mono ?_; rintro e wE ⟨rfl, hb⟩; have M8 := Lib.hid (M7.out.keep hb); replace BB := Lib.hid (nextB BB.out hb); replace ct := M8.out.base.tab.cell; replace cm := M8.out.base.man.cell; replace cn := M8.out.tab.cell; replace co := M8.out.man.cell; clear hb)
                    have X1 := Lib.hid (Has.new wE 31 #[.int .i64 d, .int .i64 m])
                    have M9 := Lib.hid (M8.out.keep (newB (Below.refl _ _) (.cells #[.int .i64 d, .int .i64 m] 31))); have BB9 := Lib.hid (newB BB.out (.cells #[.int .i64 d, .int .i64 m] 31))
                    clear ct cm cn co M7 M8 BB
                    have ct := M9.out.base.tab.cell; have cm := M9.out.base.man.cell; have cn := M9.out.tab.cell; have co := M9.out.man.cell
                    generalize hgE : wE.heap.size = gE at *
                    clear hgE
                    generalize wE.alloc (.cells #[.int .i64 d, .int .i64 m] 31) = wG at *
                    go_upto_region 35 with (go_at_call 16; refine (HT2.out _ BB9.out).mono ?_; rintro e wF ⟨rfl, hb⟩; have X2 := Lib.hid ((X1.out.after hb).alloc (.cells #[.int .i64 d', .int .i64 m'] 31)); have X3 := Lib.hid (Has.new wF 31 #[.int .i64 d', .int .i64 m']); have B10 := Lib.hid (newB (nextB M9.out.base.below hb) (.cells #[.int .i64 d', .int .i64 m'] 31)); clear hb)
                    clear ct cm cn co M9 BB9 X1
                    have cx := X2.out.cell; have cy := X3.out.cell
                    generalize wF.heap.size = gF at *
                    generalize wF.alloc (.cells #[.int .i64 d', .int .i64 m'] 31) = wH at *
                    go_wp2_with (go_at_call 15; refine (knownLaw_c _).mono ?_; rintro e w15 ⟨rfl, hb⟩; have HK := Lib.hid (nextB B10.out hb); clear hb)
                    exact bodyPost_ret (results_tmp rfl _ _ _) rfl ⟨rfl, HK.out⟩
end Go.Proofs
namespace Go.Proofs
open Go.RowKit Go.Shelf Gas
attribute [local go_sem ↓] Go.wp_at_zero Go.wp_at_succ

set_option maxHeartbeats 4000000 in
set_option maxRecDepth 50000 in
theorem gasMore_walk (t : Tm) (A : Option Addr) (n c : Nat) (dive : List St) (hA : A = none → c = 0) (a b g : Int) (w : World) (hi : t.In w) (hd : SlOf St.cs 4 w A n dive) :
    Calls Tryz.prog 12 #[t.tab, t.man, .slice A n c, .int .i64 a, .int .i64 b, .int .i64 g] w fun e w' => e = .returned (.bool true) ∧ Below w.heap.size w w' := by
  have HSh := Lib.hid fun (W : World) => short_c t A n c W
  have E0 := Lib.hid (Bm.start w t)
  cases hs : shortB t n
  · rw [hs] at HSh
    clear hs hi hd hA
    obtain ⟨pA, sA, rA, pn, pc, sn, sc, rn, rc, ps, ss, rs⟩ := t
    simp only [Tm.tab, Tm.man] at *
    go_enter Tryz.func12, Tryz.ntmps12
    go_wp2_with (first
      | (go_at_call 13; refine (HSh.out _).mono ?_; rintro e w13 ⟨rfl, hb⟩; have EE := Lib.hid (E0.out.keep hb); have ct := EE.out.tab.cell; have cm := EE.out.man.cell; clear hb)
      | (go_at_call 15; refine (knownLaw_c _).mono ?_; rintro e w15 ⟨rfl, hb⟩; have HB := Lib.hid (nextB EE.out.below hb); clear hb))
    exact bodyPost_ret (results_tmp rfl _ _ _) rfl ⟨rfl, HB.out⟩
  · obtain ⟨hsm, hn7⟩ := short_small hs
    have HFi := Lib.hid fun (W : World) (hb : Below w.heap.size w W) => fine_c t hsm A n c dive (by omega) W (hi.keep hb) (hd.keep hb)
    cases hdb : definedB t.ps t.ss t.rs dive 0
    · rw [hs] at HSh; rw [hdb] at HFi
      clear hs hi hd hA hsm hdb
      obtain ⟨pA, sA, rA, pn, pc, sn, sc, rn, rc, ps, ss, rs⟩ := t
      simp only [Tm.tab, Tm.man] at *
      go_enter Tryz.func12, Tryz.ntmps12
      go_wp2_with (first
        | (go_at_call 13; refine (HSh.out _).mono ?_; rintro e w13 ⟨rfl, hb⟩; have EE := Lib.hid (E0.out.keep hb); have ct := EE.out.tab.cell; have cm := EE.out.man.cell; clear hb)
        | (go_at_call 14; refine (HFi.out _ EE.out.below).mono ?_; rintro e w14 ⟨rfl, hb⟩; replace EE := Lib.hid (EE.out.keep hb); replace ct := EE.out.tab.cell; replace cm := EE.out.man.cell; clear hb)
        | (go_at_call 15; refine (knownLaw_c _).mono ?_; rintro e w15 ⟨rfl, hb⟩; have HB := Lib.hid (nextB EE.out.below hb); clear hb))
      exact bodyPost_ret (results_tmp rfl _ _ _) rfl ⟨rfl, HB.out⟩
    · by_cases hall : 0 ≤ a ∧ a ≤ b ∧ b ≤ 100 ∧ 0 ≤ g ∧ g ≤ 20000
      · obtain ⟨h1, h2, h3, h4, h5⟩ := hall
        have hn4 : n ≤ 4 := by
          have h := hdb
          simp only [definedB, diveB, Bool.and_eq_true, decide_eq_true_eq] at h
          have := hd.1
          omega
        exact more_a t A n c dive hA a b g w hi hd hsm hs hdb h1 h2 h3 h4 h5 hn4
      · rw [hs] at HSh; rw [hdb] at HFi
        clear hs hi hd hA hsm hdb
        obtain ⟨pA, sA, rA, pn, pc, sn, sc, rn, rc, ps, ss, rs⟩ := t
        simp only [Tm.tab, Tm.man] at *
        by_cases h1 : a < 0
        · go_enter Tryz.func12, Tryz.ntmps12
          go_wp2_with (first
            | (go_at_call 13; refine (HSh.out _).mono ?_; rintro e w13 ⟨rfl, hb⟩; have EE := Lib.hid (E0.out.keep hb); have ct := EE.out.tab.cell; have cm := EE.out.man.cell; clear hb)
            | (go_at_call 14; refine (HFi.out _ EE.out.below).mono ?_; rintro e w14 ⟨rfl, hb⟩; replace EE := Lib.hid (EE.out.keep hb); replace ct := EE.out.tab.cell; replace cm := EE.out.man.cell; clear hb)
            | (go_at_call 15; refine (knownLaw_c _).mono ?_; rintro e w15 ⟨rfl, hb⟩; have HB := Lib.hid (nextB EE.out.below hb); clear hb))
          exact bodyPost_ret (results_tmp rfl _ _ _) rfl ⟨rfl, HB.out⟩
        · by_cases h2 : a > b
          · go_enter Tryz.func12, Tryz.ntmps12
            go_wp2_with (first
              | (go_at_call 13; refine (HSh.out _).mono ?_; rintro e w13 ⟨rfl, hb⟩; have EE := Lib.hid (E0.out.keep hb); have ct := EE.out.tab.cell; have cm := EE.out.man.cell; clear hb)
              | (go_at_call 14; refine (HFi.out _ EE.out.below).mono ?_; rintro e w14 ⟨rfl, hb⟩; replace EE := Lib.hid (EE.out.keep hb); replace ct := EE.out.tab.cell; replace cm := EE.out.man.cell; clear hb)
              | (go_at_call 15; refine (knownLaw_c _).mono ?_; rintro e w15 ⟨rfl, hb⟩; have HB := Lib.hid (nextB EE.out.below hb); clear hb))
            exact bodyPost_ret (results_tmp rfl _ _ _) rfl ⟨rfl, HB.out⟩
          · by_cases h3 : b > 100
            · go_enter Tryz.func12, Tryz.ntmps12
              go_wp2_with (first
                | (go_at_call 13; refine (HSh.out _).mono ?_; rintro e w13 ⟨rfl, hb⟩; have EE := Lib.hid (E0.out.keep hb); have ct := EE.out.tab.cell; have cm := EE.out.man.cell; clear hb)
                | (go_at_call 14; refine (HFi.out _ EE.out.below).mono ?_; rintro e w14 ⟨rfl, hb⟩; replace EE := Lib.hid (EE.out.keep hb); replace ct := EE.out.tab.cell; replace cm := EE.out.man.cell; clear hb)
                | (go_at_call 15; refine (knownLaw_c _).mono ?_; rintro e w15 ⟨rfl, hb⟩; have HB := Lib.hid (nextB EE.out.below hb); clear hb))
              exact bodyPost_ret (results_tmp rfl _ _ _) rfl ⟨rfl, HB.out⟩
            · by_cases h4 : g < 0
              · go_enter Tryz.func12, Tryz.ntmps12
                go_wp2_with (first
                  | (go_at_call 13; refine (HSh.out _).mono ?_; rintro e w13 ⟨rfl, hb⟩; have EE := Lib.hid (E0.out.keep hb); have ct := EE.out.tab.cell; have cm := EE.out.man.cell; clear hb)
                  | (go_at_call 14; refine (HFi.out _ EE.out.below).mono ?_; rintro e w14 ⟨rfl, hb⟩; replace EE := Lib.hid (EE.out.keep hb); replace ct := EE.out.tab.cell; replace cm := EE.out.man.cell; clear hb)
                  | (go_at_call 15; refine (knownLaw_c _).mono ?_; rintro e w15 ⟨rfl, hb⟩; have HB := Lib.hid (nextB EE.out.below hb); clear hb))
                exact bodyPost_ret (results_tmp rfl _ _ _) rfl ⟨rfl, HB.out⟩
              · have h5 : g > 20000 := by omega
                clear hall
                go_enter Tryz.func12, Tryz.ntmps12
                go_wp2_with (first
                  | (go_at_call 13; refine (HSh.out _).mono ?_; rintro e w13 ⟨rfl, hb⟩; have EE := Lib.hid (E0.out.keep hb); have ct := EE.out.tab.cell; have cm := EE.out.man.cell; clear hb)
                  | (go_at_call 14; refine (HFi.out _ EE.out.below).mono ?_; rintro e w14 ⟨rfl, hb⟩; replace EE := Lib.hid (EE.out.keep hb); replace ct := EE.out.tab.cell; replace cm := EE.out.man.cell; clear hb)
                  | (go_at_call 15; refine (knownLaw_c _).mono ?_; rintro e w15 ⟨rfl, hb⟩; have HB := Lib.hid (nextB EE.out.below hb); clear hb))
                exact bodyPost_ret (results_tmp rfl _ _ _) rfl ⟨rfl, HB.out⟩
end Go.Proofs
namespace Go.Proofs.YtahochgbkhpefabGreatDoor.gasMore
open Go.ChangeShapes Go.WideShapes Go.ChangeAt Go.RowKit Go.Proofs

theorem own : ownKnob Tryz.prog.godebug = none := by kernel_rfl
theorem laidOut : laidOutB Tryz.prog = true := by kernel_rfl
theorem door_met (os : Os) (args : Array Value) : laidMetH Tryz.prog Rows.gasMoreRow.laid ((World.doorLaid Tryz.prog 400 os).forCall (fun _ _ => 0) ⟨#[], args, []⟩).memory :=
  laidMetH_of_parts3 (fuel := 8) (laidMet_of_run' 8 (by kernel_rfl) (by kernel_rfl)) (by kernel_rfl) (by kernel_rfl)

set_option maxRecDepth 100000 in
theorem lifted (os : Os) (started : os.Started) (H : Type) (enc : TypeId × Value → H) :
    ReturnsInHanded {} Tryz.checked os 12 .any (fun w args => (Rows.gasMoreSpec.pre enc Tryz.prog Tryz.f12 [] false w args ∧ laidMetH Tryz.prog Rows.gasMoreRow.laid w) ∧ sizedMet enc Tryz.prog Tryz.f12 (OpenSpec.ofChange Rows.gasMoreSpec) false w args)
      (Rows.gasMoreSpec.post enc Tryz.prog Tryz.f12 false true false false) := by
  refine returnsInHanded_of_change_and (C := Tryz.checked) (X := fun w _ => laidMetH Tryz.prog Rows.gasMoreRow.laid w) (fun _ _ _ hh h => h.of_heap hh) own started (by kernel_rfl) Tryz.func12
    (ChangeSpec.witness_shaped (enc := enc) (C := Tryz.checked) (os := os) (X := fun w _ => laidMetH Tryz.prog Rows.gasMoreRow.laid w) false (World.doorLaid Tryz.prog 400 os) #[.agg #[.slice none 0 0, .slice none 0 0], .agg #[.slice none 0 0], .slice none 0 0, .int .i64 0, .int .i64 0, .int .i64 0] 8 rfl (World.shaped_of_RefB (by kernel_rfl) (by kernel_rfl)) (by kernel_rfl) (by kernel_rfl) (by kernel_rfl) (door_met os _)) ?_
  intro W base args ds gs before hval0 hW _ _ hL _
  have hval : ∀ (j : Nat) t v, Tryz.f12.params[j]? = some t → args[j]? = some v → Value.okWide Tryz.prog W .any base t v := hval0
  have hW' := hW
  obtain ⟨p, q, hA0, hV, rfl, hfz, hnd⟩ := hW
  have hA : DataW.TrodAll enc Tryz.prog W 0 (fun _ => true) true Tryz.f12.params.toList args.toList ds p := hA0
  rw [Tryz.params12] at hA hval
  obtain ⟨v0, vs0, d0, ds0, p0, q0, hargs, rfl, rfl, h0, r0⟩ := trodAll_cons hA
  obtain ⟨v1, vs1, d1, ds1, p1, q1, rfl, rfl, rfl, h1, r1⟩ := trodAll_cons r0
  obtain ⟨v2, vs2, d2, ds2, p2, q2, rfl, rfl, rfl, h2, r2⟩ := trodAll_cons r1
  obtain ⟨v3, vs3, d3, ds3, p3, q3, rfl, rfl, rfl, h3, r3⟩ := trodAll_cons r2
  obtain ⟨v4, vs4, d4, ds4, p4, q4, rfl, rfl, rfl, h4, r4⟩ := trodAll_cons r3
  obtain ⟨v5, vs5, d5, ds5, p5, q5, rfl, rfl, rfl, h5, r5⟩ := trodAll_cons r4
  obtain ⟨rfl, rfl, rfl⟩ := trodAll_nil r5
  obtain rfl : args = #[v0, v1, v2, v3, v4, v5] := by cases args; simp_all
  obtain ⟨rfl, rfl⟩ := trodVars_none hV
  have k0 := h0
  have lt0 : ∀ x ∈ p0, x.block < W.heap.size := by obtain ⟨m, hm⟩ := k0; exact DataW.trod_lt m _ _ _ hm
  have u0 := hval 0 25 v0 rfl rfl
  obtain ⟨pA, pn, pc, ps, sA, sn, sc, ss, rfl, hP, hS⟩ := arg_table u0 h0
  have k1 := h1
  have lt1 : ∀ x ∈ p1, x.block < W.heap.size := by obtain ⟨m, hm⟩ := k1; exact DataW.trod_lt m _ _ _ hm
  have u1 := hval 1 28 v1 rfl rfl
  obtain ⟨rA, rn, rc, rs, rfl, hR⟩ := arg_man u1 h1
  have k2 := h2
  have lt2 : ∀ x ∈ p2, x.block < W.heap.size := by obtain ⟨m, hm⟩ := k2; exact DataW.trod_lt m _ _ _ hm
  have u2 := hval 2 29 v2 rfl rfl
  obtain ⟨A2, n2, c2, l2, rfl, hd2, hc2, hm2, hA2⟩ := arg_dive u2 h2
  have k3 := h3
  have lt3 : ∀ x ∈ p3, x.block < W.heap.size := by obtain ⟨m, hm⟩ := k3; exact DataW.trod_lt m _ _ _ hm
  have u3 := hval 3 3 v3 rfl rfl
  obtain ⟨a3, rfl, w3⟩ := arg_int u3 h3
  have k4 := h4
  have lt4 : ∀ x ∈ p4, x.block < W.heap.size := by obtain ⟨m, hm⟩ := k4; exact DataW.trod_lt m _ _ _ hm
  have u4 := hval 4 3 v4 rfl rfl
  obtain ⟨a4, rfl, w4⟩ := arg_int u4 h4
  have k5 := h5
  have lt5 : ∀ x ∈ p5, x.block < W.heap.size := by obtain ⟨m, hm⟩ := k5; exact DataW.trod_lt m _ _ _ hm
  have u5 := hval 5 3 v5 rfl rfl
  obtain ⟨a5, rfl, w5⟩ := arg_int u5 h5
  clear hA0 hval0
  simp only [List.append_nil] at hW'
  refine (gasMore_walk ⟨pA, sA, rA, pn, pc, sn, sc, rn, rc, ps, ss, rs⟩ A2 n2 c2 l2 hA2 a3 a4 a5 W ⟨hP, hS, hR⟩ hd2).mono fun e W' ⟨he, bel⟩ => ?_
  subst he
  exact ⟨_, rfl, _, _, _, [], _, [], hW', trodAll_mk1 (shut_bool Tryz.underlying4 _), (trodAll_cons_mk (Below.trod laidOut (by kernel_rfl) (of_decide_eq_true (by kernel_rfl)) k0 bel lt0) (trodAll_cons_mk (Below.trod laidOut (by kernel_rfl) (of_decide_eq_true (by kernel_rfl)) k1 bel lt1) (trodAll_cons_mk (Below.trod laidOut (by kernel_rfl) (of_decide_eq_true (by kernel_rfl)) k2 bel lt2) (trodAll_cons_mk (Below.trod laidOut (by kernel_rfl) (of_decide_eq_true (by kernel_rfl)) k3 bel lt3) (trodAll_cons_mk (Below.trod laidOut (by kernel_rfl) (of_decide_eq_true (by kernel_rfl)) k4 bel lt4) (trodAll_cons_mk (Below.trod laidOut (by kernel_rfl) (of_decide_eq_true (by kernel_rfl)) k5 bel lt5) trodAll_mk0)))))), rfl, bel.frame _, fun h => by cases h⟩

theorem row_holds : Rows.GasMoreSaid :=
  OpenClaim.holds_of_wide 12 Tryz.f12 rfl rfl rfl rfl rfl rfl rfl ⟨rfl, rfl, rfl, rfl, rfl⟩ rfl rfl rfl rfl rfl (by kernel_rfl) Tryz.func12 (by kernel_rfl)
    (of_decide_eq_true (by kernel_rfl)) (by unfold Func.isWrapper; first | (rw [if_pos (by decide +kernel)]; kernel_rfl) | (rw [if_neg (by decide +kernel)]; exact ⟨rfl, rfl⟩))
    (fun os started H enc _ => lifted os started H enc)

theorem gasMore_holds : Rows.GasMoreCardSaid :=
  Claim7.holds_tied_plain_at .later [] [.data, .data, .data] true (true, "4fc05ff97337c211e58e94116c1afb33103fda01ac6f5a8902717e04a03fffff") true
    row_holds (fun _ h => by cases h) (by kernel_rfl) (fun _ h => by cases h) gasMore_row_tie rfl ⟨rfl, rfl⟩ (by kernel_rfl) rfl
    (fun f fn hf hfn => by
      obtain rfl : f = 12 := Option.some.inj ((show Tryz.prog.funcNamed "bathyal/bathyallaw02.GasMore" = some 12 by kernel_rfl).symm.trans hf) |>.symm
      obtain rfl : fn = Tryz.f12 := (Option.some.inj (Tryz.func12.symm.trans hfn)).symm
      exact ⟨by kernel_rfl, fun j t ht => by
        rw [Tryz.params12] at ht
        have hm : t ∈ [25, 28, 29, 3, 3, 3] := by simpa using Array.mem_of_getElem? ht
        have hall : ([25, 28, 29, 3, 3, 3].all fun u => !Tryz.prog.wantsStandIn u) = true := by kernel_rfl
        exact (show Tryz.prog.wantsStandIn t = false by simpa using List.all_eq_true.1 hall t hm)⟩)
    (by kernel_rfl)
#print axioms gasMore_holds
end Go.Proofs.YtahochgbkhpefabGreatDoor.gasMore
