/-
  The statement GasStops holds for every input: the law returns true and what came in reads as before.
-/
import Derived.Test.YtahochgbkhpefaaGreatDoorP15
import Derived.Test.YtahochgbkhpefaaGreatDoorP11
import Derived.Test.YtahochgbkhpefaaGreatDoorRows
import Derived.Test.YtahochgbkhpefaaGreatDoorTie
import Derived.Test.YtahochgbkhpefaaGreatDoorCards
import Derived.Test.YtahochgbkhpefaaGreatDoorChecked
import Derived.ProofKit
import Derived.OpenShut
import Derived.LaidMore
import Derived.Stop.Joined
import Derived.SevenTiedAt
import Derived.Carry
namespace Go.Proofs
open Go.RowKit Go.Shelf Gas
attribute [local go_sem ↓] Go.wp_at_zero Go.wp_at_succ

theorem definedB_room (ps : List Pr) (ss : List Int) (rs : List Pr) (dive : List St) (r : Int) (hr : 0 ≤ r) : definedB ps ss rs dive r = (definedB ps ss rs dive 0 && decide ((dive.length : Int) + r ≤ 4)) := by
  rw [Bool.eq_iff_iff]
  simp only [definedB, diveB, Bool.and_eq_true, decide_eq_true_eq]
  constructor
  · rintro ⟨a, b, c⟩; exact ⟨⟨a, by omega, c⟩, b⟩
  · rintro ⟨⟨a, b, c⟩, d⟩; exact ⟨a, d, c⟩
theorem stopR_ref (t : Tm) (a : FS) : stopR t a = refStR t.ps t.rs t.ss a := stop_search t.ps t.rs t.ss a
theorem chamR_ref (t : Tm) (a : FS) (l g : Int) : chamR t a l g = searchD (okS t.ps t.rs (stayH a.1 (topS l g))) 30 40 1 := cham_search t.ps t.rs _

set_option maxHeartbeats 4000000 in
set_option maxRecDepth 50000 in
theorem gasStops_walk (t : Tm) (A : Option Addr) (n c : Nat) (dive : List St) (hA : A = none → c = 0) (l g : Int) (w : World) (hi : t.In w) (hd : SlOf St.cs 4 w A n dive) :
    Calls Tryz.prog 14 #[t.tab, t.man, .slice A n c, .agg #[.int .i64 l, .int .i64 g]] w fun e w' => e = .returned (.bool true) ∧ Below w.heap.size w w' := by
  have HSh := Lib.hid fun (W : World) => short_c t A n c W
  have E0 := Lib.hid (Bx.start w t l g)
  cases hs : shortB t n
  · rw [hs] at HSh
    clear hs hi hd
    obtain ⟨pA, sA, rA, pn, pc, sn, sc, rn, rc, ps, ss, rs⟩ := t
    simp only [Tm.tab, Tm.man] at *
    go_enter Tryz.func14, Tryz.ntmps14
    go_wp2_with (first
      | (go_at_call 26; refine (HSh.out _).mono ?_; rintro e w1 ⟨rfl, hb⟩; have EE := Lib.hid (E0.out.keep hb); clear hb)
      | (go_at_call 15; refine (knownLaw_c _).mono ?_; rintro e w2 ⟨rfl, hb⟩; have HB := Lib.hid (nextB EE.out.below hb); clear hb))
    exact bodyPost_ret (results_tmp rfl _ _ _) rfl ⟨rfl, HB.out⟩
  · rw [hs] at HSh
    obtain ⟨hsm, hn7⟩ := short_small hs
    have hln : dive.length = n := hd.1
    have HFi := Lib.hid fun (W : World) (hb : Below w.heap.size w W) => fine_c t hsm A n c dive (by omega) W (hi.keep hb) (hd.keep hb)
    have HSt := Lib.hid fun (W : World) (hb : Below w.heap.size w W) => Stop_c t hsm A n c dive (by omega) W (hi.keep hb) (hd.keep hb)
    have HCh := Lib.hid fun (W : World) (hb : Below w.heap.size w W) => Chamber_c t hsm A n c dive l g (by omega) W (hi.keep hb) (hd.keep hb)
    have HTi := Lib.hid fun (W : World) => time_c l g W
    have hd1 := definedB_room t.ps t.ss t.rs dive 1 (by omega)
    have hd2 := definedB_room t.ps t.ss t.rs dive 2 (by omega)
    rw [hln] at hd1 hd2
    cases hdb : definedB t.ps t.ss t.rs dive 0
    · rw [hdb] at HFi hd1 hd2
      rw [Bool.false_and] at hd1 hd2
      rw [show stopF t dive = ((0, 0), 2) by simp [stopF, hd1]] at HSt
      rw [show chamF t dive l g = ((0, 0), 2) by simp [chamF, hd2]] at HCh
      simp only [stE] at HSt HCh
      clear hs hi hd hsm hdb hd1 hd2 hln
      obtain ⟨pA, sA, rA, pn, pc, sn, sc, rn, rc, ps, ss, rs⟩ := t
      simp only [Tm.tab, Tm.man] at *
      go_enter Tryz.func14, Tryz.ntmps14
      go_wp2_with (first
        | (go_at_call 26; refine (HSh.out _).mono ?_; rintro e w1 ⟨rfl, hb⟩; have EE := Lib.hid (E0.out.keep hb); have ct := EE.out.tab.cell; have cm := EE.out.man.cell; have cs := EE.out.sp.cell; clear hb)
        | (go_at_call 53; refine (HSt.out _ EE.out.below).mono ?_; rintro e w2 ⟨rfl, hb⟩; replace EE := Lib.hid (EE.out.keep hb); replace EE := Lib.hid (EE.out.keep (box_below (W := w2) #[.int .i64 0, .int .i64 0] #[.int .i64 0, .int .i64 0] 100)); have S9 := Lib.hid (box_has (W := w2) #[.int .i64 0, .int .i64 0] #[.int .i64 0, .int .i64 0] 100); have c9 := S9.out.cell; replace ct := EE.out.tab.cell; replace cm := EE.out.man.cell; replace cs := EE.out.sp.cell; clear hb)
        | (refine wpList_store_all rfl 100 _ _ rfl w2.heap.size rfl _ rfl 100 _ (Has.new w2 100 _) (by kernel_rfl) rfl (by simp [Value.oneCell']) ?_; generalize (w2.alloc (.cells #[.int .i64 0, .int .i64 0] 100)).setRow w2.heap.size #[.int .i64 0, .int .i64 0] = w2' at *)
        | (go_at_call 54; refine (HCh.out _ EE.out.below).mono ?_; rintro e w4 ⟨rfl, hb⟩; replace EE := Lib.hid (EE.out.keep hb); replace S9 := Lib.hid (S9.out.after hb); replace EE := Lib.hid (EE.out.keep (box_below (W := w4) #[.int .i64 0, .int .i64 0] #[.int .i64 0, .int .i64 0] 100)); replace S9 := Lib.hid (S9.out.after (box_below (W := w4) #[.int .i64 0, .int .i64 0] #[.int .i64 0, .int .i64 0] 100)); have S11 := Lib.hid (box_has (W := w4) #[.int .i64 0, .int .i64 0] #[.int .i64 0, .int .i64 0] 100); have c11 := S11.out.cell; replace ct := EE.out.tab.cell; replace cm := EE.out.man.cell; replace cs := EE.out.sp.cell; replace c9 := S9.out.cell; clear hb)
        | (refine wpList_store_all rfl 100 _ _ rfl w4.heap.size rfl _ rfl 100 _ (Has.new w4 100 _) (by kernel_rfl) rfl (by simp [Value.oneCell']) ?_; generalize (w4.alloc (.cells #[.int .i64 0, .int .i64 0] 100)).setRow w4.heap.size #[.int .i64 0, .int .i64 0] = w4' at *)
        | (go_at_call 32; refine (HFi.out _ EE.out.below).mono ?_; rintro e w5 ⟨rfl, hb⟩; replace EE := Lib.hid (EE.out.keep hb); replace S9 := Lib.hid (S9.out.after hb); replace S11 := Lib.hid (S11.out.after hb); replace ct := EE.out.tab.cell; replace cm := EE.out.man.cell; replace cs := EE.out.sp.cell; replace c9 := S9.out.cell; replace c11 := S11.out.cell; clear hb)
        | (go_at_call 15; refine (knownLaw_c _).mono ?_; rintro e w9 ⟨rfl, hb⟩; have HB := Lib.hid (nextB EE.out.below hb); clear hb))
      exact bodyPost_ret (results_tmp rfl _ _ _) rfl ⟨rfl, HB.out⟩
    · rw [hdb] at HFi hd1 hd2
      rw [Bool.true_and] at hd1 hd2
      obtain ⟨hok, hds, hlen⟩ := defined_ok hsm hi hdb
      have hss := defined_ss hdb
      have hrn : t.rs.length ≤ 100 := by
        have h1 := hi.rs.1
        simp only [shortB, decide_eq_true_eq] at hs
        omega
      have hsn : t.sn ≤ 1000 := by
        simp only [shortB, decide_eq_true_eq] at hs
        omega
      by_cases hn4 : n = 4
      · subst hn4
        rw [show stopF t dive = ((0, 0), 2) by simp [stopF, hd1]] at HSt
        rw [show chamF t dive l g = ((0, 0), 2) by simp [chamF, hd2]] at HCh
        simp only [stE] at HSt HCh
        clear hs hi hd hsm hdb hd1 hd2 hln hok hds hss hrn hsn
        obtain ⟨pA, sA, rA, pn, pc, sn, sc, rn, rc, ps, ss, rs⟩ := t
        simp only [Tm.tab, Tm.man] at *
        go_enter Tryz.func14, Tryz.ntmps14
        go_wp2_with (first
          | (go_at_call 26; refine (HSh.out _).mono ?_; rintro e w1 ⟨rfl, hb⟩; have EE := Lib.hid (E0.out.keep hb); have ct := EE.out.tab.cell; have cm := EE.out.man.cell; have cs := EE.out.sp.cell; clear hb)
          | (go_at_call 53; refine (HSt.out _ EE.out.below).mono ?_; rintro e w2 ⟨rfl, hb⟩; replace EE := Lib.hid (EE.out.keep hb); replace EE := Lib.hid (EE.out.keep (box_below (W := w2) #[.int .i64 0, .int .i64 0] #[.int .i64 0, .int .i64 0] 100)); have S9 := Lib.hid (box_has (W := w2) #[.int .i64 0, .int .i64 0] #[.int .i64 0, .int .i64 0] 100); have c9 := S9.out.cell; replace ct := EE.out.tab.cell; replace cm := EE.out.man.cell; replace cs := EE.out.sp.cell; clear hb)
          | (refine wpList_store_all rfl 100 _ _ rfl w2.heap.size rfl _ rfl 100 _ (Has.new w2 100 _) (by kernel_rfl) rfl (by simp [Value.oneCell']) ?_; generalize (w2.alloc (.cells #[.int .i64 0, .int .i64 0] 100)).setRow w2.heap.size #[.int .i64 0, .int .i64 0] = w2' at *)
          | (go_at_call 54; refine (HCh.out _ EE.out.below).mono ?_; rintro e w4 ⟨rfl, hb⟩; replace EE := Lib.hid (EE.out.keep hb); replace S9 := Lib.hid (S9.out.after hb); replace EE := Lib.hid (EE.out.keep (box_below (W := w4) #[.int .i64 0, .int .i64 0] #[.int .i64 0, .int .i64 0] 100)); replace S9 := Lib.hid (S9.out.after (box_below (W := w4) #[.int .i64 0, .int .i64 0] #[.int .i64 0, .int .i64 0] 100)); have S11 := Lib.hid (box_has (W := w4) #[.int .i64 0, .int .i64 0] #[.int .i64 0, .int .i64 0] 100); have c11 := S11.out.cell; replace ct := EE.out.tab.cell; replace cm := EE.out.man.cell; replace cs := EE.out.sp.cell; replace c9 := S9.out.cell; clear hb)
          | (refine wpList_store_all rfl 100 _ _ rfl w4.heap.size rfl _ rfl 100 _ (Has.new w4 100 _) (by kernel_rfl) rfl (by simp [Value.oneCell']) ?_; generalize (w4.alloc (.cells #[.int .i64 0, .int .i64 0] 100)).setRow w4.heap.size #[.int .i64 0, .int .i64 0] = w4' at *)
          | (go_at_call 32; refine (HFi.out _ EE.out.below).mono ?_; rintro e w5 ⟨rfl, hb⟩; replace EE := Lib.hid (EE.out.keep hb); replace S9 := Lib.hid (S9.out.after hb); replace S11 := Lib.hid (S11.out.after hb); replace ct := EE.out.tab.cell; replace cm := EE.out.man.cell; replace cs := EE.out.sp.cell; replace c9 := S9.out.cell; replace c11 := S11.out.cell; clear hb)
          | (go_at_call 15; refine (knownLaw_c _).mono ?_; rintro e w9 ⟨rfl, hb⟩; have HB := Lib.hid (nextB EE.out.below hb); clear hb))
        exact bodyPost_ret (results_tmp rfl _ _ _) rfl ⟨rfl, HB.out⟩
      · have hn3 : n ≤ 3 := by omega
        have hnge : ¬ n ≥ 4 := by omega
        have HRS := Lib.hid fun (W : World) (hb : Below w.heap.size w W) => refStop_c t hok hss hrn hsn A n c dive (by omega) hds W (hi.keep hb) (hd.keep hb)
        have HRC := Lib.hid fun (ht : ordB l g 0 120 6 = true) (W : World) (hb : Below w.heap.size w W) => refChamber_c t hok hrn A n c dive hA (by omega) hds l g (topS_ok ht) W (hi.keep hb) (hd.keep hb)
        rw [decide_eq_true (by omega)] at hd1
        rw [show stopF t dive = (match refStR t.ps t.rs t.ss (folS t.ps t.rs (h0, true) dive) with | some s => (s, 0) | none => ((0, 0), 5)) by rw [stopF, if_pos hd1, stopR_ref]; cases refStR t.ps t.rs t.ss (folS t.ps t.rs (h0, true) dive) <;> rfl] at HSt
        generalize refStR t.ps t.rs t.ss (folS t.ps t.rs (h0, true) dive) = so at *
        by_cases hc : ordB l g 0 120 6 = true ∧ n ≤ 2
        · obtain ⟨ho, hn2⟩ := hc
          have hle : ¬ (n : Int) + 1 ≥ 4 := by omega
          have hle2 : ¬ 4 ≤ n + 1 := by omega
          rw [decide_eq_true (by omega)] at hd2
          replace HRC := Lib.hid (HRC.out ho)
          rw [ho] at HTi
          rw [show chamF t dive l g = (match searchD (okS t.ps t.rs (stayH (folS t.ps t.rs (h0, true) dive).1 (topS l g))) 30 40 1 with | some s => (s, 0) | none => ((0, 0), 5)) by rw [chamF, hd2, ho, Bool.true_and, if_pos rfl, chamR_ref]; cases searchD (okS t.ps t.rs (stayH (folS t.ps t.rs (h0, true) dive).1 (topS l g))) 30 40 1 <;> rfl] at HCh
          generalize searchD (okS t.ps t.rs (stayH (folS t.ps t.rs (h0, true) dive).1 (topS l g))) 30 40 1 = co at *
          clear hs hi hd hsm hdb hd1 hd2 hln hok hds hss hrn hsn ho
          obtain ⟨pA, sA, rA, pn, pc, sn, sc, rn, rc, ps, ss, rs⟩ := t
          simp only [Tm.tab, Tm.man] at *
          cases so with
          | none =>
            simp only [stE, optS, Option.getD_none, Option.isSome_none] at HSt HRS
            cases co with
            | none =>
              simp only [stE, optS, Option.getD_none, Option.isSome_none] at HCh HRC
              go_enter Tryz.func14, Tryz.ntmps14
              go_wp2_with (first
                | (go_at_call 26; refine (HSh.out _).mono ?_; rintro e w1 ⟨rfl, hb⟩; have EE := Lib.hid (E0.out.keep hb); have ct := EE.out.tab.cell; have cm := EE.out.man.cell; have cs := EE.out.sp.cell; clear hb)
                | (go_at_call 53; refine (HSt.out _ EE.out.below).mono ?_; rintro e w2 ⟨rfl, hb⟩; replace EE := Lib.hid (EE.out.keep hb); replace EE := Lib.hid (EE.out.keep (box_below (W := w2) #[.int .i64 0, .int .i64 0] #[.int .i64 0, .int .i64 0] 100)); have S9 := Lib.hid (box_has (W := w2) #[.int .i64 0, .int .i64 0] #[.int .i64 0, .int .i64 0] 100); have c9 := S9.out.cell; replace ct := EE.out.tab.cell; replace cm := EE.out.man.cell; replace cs := EE.out.sp.cell; clear hb)
                | (refine wpList_store_all rfl 100 _ _ rfl w2.heap.size rfl _ rfl 100 _ (Has.new w2 100 _) (by kernel_rfl) rfl (by simp [Value.oneCell']) ?_; generalize (w2.alloc (.cells #[.int .i64 0, .int .i64 0] 100)).setRow w2.heap.size #[.int .i64 0, .int .i64 0] = w2' at *)
                | (go_at_call 54; refine (HCh.out _ EE.out.below).mono ?_; rintro e w4 ⟨rfl, hb⟩; replace EE := Lib.hid (EE.out.keep hb); replace S9 := Lib.hid (S9.out.after hb); replace EE := Lib.hid (EE.out.keep (box_below (W := w4) #[.int .i64 0, .int .i64 0] #[.int .i64 0, .int .i64 0] 100)); replace S9 := Lib.hid (S9.out.after (box_below (W := w4) #[.int .i64 0, .int .i64 0] #[.int .i64 0, .int .i64 0] 100)); have S11 := Lib.hid (box_has (W := w4) #[.int .i64 0, .int .i64 0] #[.int .i64 0, .int .i64 0] 100); have c11 := S11.out.cell; replace ct := EE.out.tab.cell; replace cm := EE.out.man.cell; replace cs := EE.out.sp.cell; replace c9 := S9.out.cell; clear hb)
                | (refine wpList_store_all rfl 100 _ _ rfl w4.heap.size rfl _ rfl 100 _ (Has.new w4 100 _) (by kernel_rfl) rfl (by simp [Value.oneCell']) ?_; generalize (w4.alloc (.cells #[.int .i64 0, .int .i64 0] 100)).setRow w4.heap.size #[.int .i64 0, .int .i64 0] = w4' at *)
                | (go_at_call 32; refine (HFi.out _ EE.out.below).mono ?_; rintro e w5 ⟨rfl, hb⟩; replace EE := Lib.hid (EE.out.keep hb); replace S9 := Lib.hid (S9.out.after hb); replace S11 := Lib.hid (S11.out.after hb); replace ct := EE.out.tab.cell; replace cm := EE.out.man.cell; replace cs := EE.out.sp.cell; replace c9 := S9.out.cell; replace c11 := S11.out.cell; clear hb)
                | (go_at_call 55; refine (HRS.out _ EE.out.below).mono ?_; rintro e w6 ⟨rfl, hb⟩; replace EE := Lib.hid (EE.out.keep hb); replace S9 := Lib.hid (S9.out.after hb); replace S11 := Lib.hid (S11.out.after hb); replace EE := Lib.hid (EE.out.keep (box_below (W := w6) #[.int .i64 0, .int .i64 0] #[.int .i64 0, .int .i64 0] 100)); replace S9 := Lib.hid (S9.out.after (box_below (W := w6) #[.int .i64 0, .int .i64 0] #[.int .i64 0, .int .i64 0] 100)); replace S11 := Lib.hid (S11.out.after (box_below (W := w6) #[.int .i64 0, .int .i64 0] #[.int .i64 0, .int .i64 0] 100)); have S13 := Lib.hid (box_has (W := w6) #[.int .i64 0, .int .i64 0] #[.int .i64 0, .int .i64 0] 100); have c13 := S13.out.cell; replace ct := EE.out.tab.cell; replace cm := EE.out.man.cell; replace cs := EE.out.sp.cell; replace c9 := S9.out.cell; replace c11 := S11.out.cell; clear hb)
                | (refine wpList_store_all rfl 100 _ _ rfl w6.heap.size rfl _ rfl 100 _ (Has.new w6 100 _) (by kernel_rfl) rfl (by simp [Value.oneCell']) ?_; generalize (w6.alloc (.cells #[.int .i64 0, .int .i64 0] 100)).setRow w6.heap.size #[.int .i64 0, .int .i64 0] = w6' at *)
                | (go_at_call 56; refine (HTi.out _).mono ?_; rintro e w7 ⟨rfl, hb⟩; replace EE := Lib.hid (EE.out.keep hb); replace S9 := Lib.hid (S9.out.after hb); replace S11 := Lib.hid (S11.out.after hb); replace S13 := Lib.hid (S13.out.after hb); replace ct := EE.out.tab.cell; replace cm := EE.out.man.cell; replace cs := EE.out.sp.cell; replace c9 := S9.out.cell; replace c11 := S11.out.cell; replace c13 := S13.out.cell; clear hb)
                | (go_at_call 57; refine (HRC.out _ EE.out.below).mono ?_; rintro e w8 ⟨rfl, hb⟩; replace EE := Lib.hid (EE.out.keep hb); replace S9 := Lib.hid (S9.out.after hb); replace S11 := Lib.hid (S11.out.after hb); replace S13 := Lib.hid (S13.out.after hb); replace EE := Lib.hid (EE.out.keep (box_below (W := w8) #[.int .i64 0, .int .i64 0] #[.int .i64 0, .int .i64 0] 100)); replace S9 := Lib.hid (S9.out.after (box_below (W := w8) #[.int .i64 0, .int .i64 0] #[.int .i64 0, .int .i64 0] 100)); replace S11 := Lib.hid (S11.out.after (box_below (W := w8) #[.int .i64 0, .int .i64 0] #[.int .i64 0, .int .i64 0] 100)); replace S13 := Lib.hid (S13.out.after (box_below (W := w8) #[.int .i64 0, .int .i64 0] #[.int .i64 0, .int .i64 0] 100)); have S15 := Lib.hid (box_has (W := w8) #[.int .i64 0, .int .i64 0] #[.int .i64 0, .int .i64 0] 100); have c15 := S15.out.cell; replace ct := EE.out.tab.cell; replace cm := EE.out.man.cell; replace cs := EE.out.sp.cell; replace c9 := S9.out.cell; replace c11 := S11.out.cell; replace c13 := S13.out.cell; clear hb)
                | (refine wpList_store_all rfl 100 _ _ rfl w8.heap.size rfl _ rfl 100 _ (Has.new w8 100 _) (by kernel_rfl) rfl (by simp [Value.oneCell']) ?_; generalize (w8.alloc (.cells #[.int .i64 0, .int .i64 0] 100)).setRow w8.heap.size #[.int .i64 0, .int .i64 0] = w8' at *)
                | (go_at_call 15; refine (knownLaw_c _).mono ?_; rintro e w9 ⟨rfl, hb⟩; have HB := Lib.hid (nextB EE.out.below hb); clear hb))
              exact bodyPost_ret (results_tmp rfl _ _ _) rfl ⟨rfl, HB.out⟩
            | some y =>
              obtain ⟨y0, y1⟩ := y
              simp only [stE, optS, Option.getD_some, Option.isSome_some] at HCh HRC
              go_enter Tryz.func14, Tryz.ntmps14
              go_wp2_with (first
                | (go_at_call 26; refine (HSh.out _).mono ?_; rintro e w1 ⟨rfl, hb⟩; have EE := Lib.hid (E0.out.keep hb); have ct := EE.out.tab.cell; have cm := EE.out.man.cell; have cs := EE.out.sp.cell; clear hb)
                | (go_at_call 53; refine (HSt.out _ EE.out.below).mono ?_; rintro e w2 ⟨rfl, hb⟩; replace EE := Lib.hid (EE.out.keep hb); replace EE := Lib.hid (EE.out.keep (box_below (W := w2) #[.int .i64 0, .int .i64 0] #[.int .i64 0, .int .i64 0] 100)); have S9 := Lib.hid (box_has (W := w2) #[.int .i64 0, .int .i64 0] #[.int .i64 0, .int .i64 0] 100); have c9 := S9.out.cell; replace ct := EE.out.tab.cell; replace cm := EE.out.man.cell; replace cs := EE.out.sp.cell; clear hb)
                | (refine wpList_store_all rfl 100 _ _ rfl w2.heap.size rfl _ rfl 100 _ (Has.new w2 100 _) (by kernel_rfl) rfl (by simp [Value.oneCell']) ?_; generalize (w2.alloc (.cells #[.int .i64 0, .int .i64 0] 100)).setRow w2.heap.size #[.int .i64 0, .int .i64 0] = w2' at *)
                | (go_at_call 54; refine (HCh.out _ EE.out.below).mono ?_; rintro e w4 ⟨rfl, hb⟩; replace EE := Lib.hid (EE.out.keep hb); replace S9 := Lib.hid (S9.out.after hb); replace EE := Lib.hid (EE.out.keep (box_below (W := w4) #[.int .i64 0, .int .i64 0] #[.int .i64 y0, .int .i64 y1] 100)); replace S9 := Lib.hid (S9.out.after (box_below (W := w4) #[.int .i64 0, .int .i64 0] #[.int .i64 y0, .int .i64 y1] 100)); have S11 := Lib.hid (box_has (W := w4) #[.int .i64 0, .int .i64 0] #[.int .i64 y0, .int .i64 y1] 100); have c11 := S11.out.cell; replace ct := EE.out.tab.cell; replace cm := EE.out.man.cell; replace cs := EE.out.sp.cell; replace c9 := S9.out.cell; clear hb)
                | (refine wpList_store_all rfl 100 _ _ rfl w4.heap.size rfl _ rfl 100 _ (Has.new w4 100 _) (by kernel_rfl) rfl (by simp [Value.oneCell']) ?_; generalize (w4.alloc (.cells #[.int .i64 0, .int .i64 0] 100)).setRow w4.heap.size #[.int .i64 y0, .int .i64 y1] = w4' at *)
                | (go_at_call 32; refine (HFi.out _ EE.out.below).mono ?_; rintro e w5 ⟨rfl, hb⟩; replace EE := Lib.hid (EE.out.keep hb); replace S9 := Lib.hid (S9.out.after hb); replace S11 := Lib.hid (S11.out.after hb); replace ct := EE.out.tab.cell; replace cm := EE.out.man.cell; replace cs := EE.out.sp.cell; replace c9 := S9.out.cell; replace c11 := S11.out.cell; clear hb)
                | (go_at_call 55; refine (HRS.out _ EE.out.below).mono ?_; rintro e w6 ⟨rfl, hb⟩; replace EE := Lib.hid (EE.out.keep hb); replace S9 := Lib.hid (S9.out.after hb); replace S11 := Lib.hid (S11.out.after hb); replace EE := Lib.hid (EE.out.keep (box_below (W := w6) #[.int .i64 0, .int .i64 0] #[.int .i64 0, .int .i64 0] 100)); replace S9 := Lib.hid (S9.out.after (box_below (W := w6) #[.int .i64 0, .int .i64 0] #[.int .i64 0, .int .i64 0] 100)); replace S11 := Lib.hid (S11.out.after (box_below (W := w6) #[.int .i64 0, .int .i64 0] #[.int .i64 0, .int .i64 0] 100)); have S13 := Lib.hid (box_has (W := w6) #[.int .i64 0, .int .i64 0] #[.int .i64 0, .int .i64 0] 100); have c13 := S13.out.cell; replace ct := EE.out.tab.cell; replace cm := EE.out.man.cell; replace cs := EE.out.sp.cell; replace c9 := S9.out.cell; replace c11 := S11.out.cell; clear hb)
                | (refine wpList_store_all rfl 100 _ _ rfl w6.heap.size rfl _ rfl 100 _ (Has.new w6 100 _) (by kernel_rfl) rfl (by simp [Value.oneCell']) ?_; generalize (w6.alloc (.cells #[.int .i64 0, .int .i64 0] 100)).setRow w6.heap.size #[.int .i64 0, .int .i64 0] = w6' at *)
                | (go_at_call 56; refine (HTi.out _).mono ?_; rintro e w7 ⟨rfl, hb⟩; replace EE := Lib.hid (EE.out.keep hb); replace S9 := Lib.hid (S9.out.after hb); replace S11 := Lib.hid (S11.out.after hb); replace S13 := Lib.hid (S13.out.after hb); replace ct := EE.out.tab.cell; replace cm := EE.out.man.cell; replace cs := EE.out.sp.cell; replace c9 := S9.out.cell; replace c11 := S11.out.cell; replace c13 := S13.out.cell; clear hb)
                | (go_at_call 57; refine (HRC.out _ EE.out.below).mono ?_; rintro e w8 ⟨rfl, hb⟩; replace EE := Lib.hid (EE.out.keep hb); replace S9 := Lib.hid (S9.out.after hb); replace S11 := Lib.hid (S11.out.after hb); replace S13 := Lib.hid (S13.out.after hb); replace EE := Lib.hid (EE.out.keep (box_below (W := w8) #[.int .i64 0, .int .i64 0] #[.int .i64 y0, .int .i64 y1] 100)); replace S9 := Lib.hid (S9.out.after (box_below (W := w8) #[.int .i64 0, .int .i64 0] #[.int .i64 y0, .int .i64 y1] 100)); replace S11 := Lib.hid (S11.out.after (box_below (W := w8) #[.int .i64 0, .int .i64 0] #[.int .i64 y0, .int .i64 y1] 100)); replace S13 := Lib.hid (S13.out.after (box_below (W := w8) #[.int .i64 0, .int .i64 0] #[.int .i64 y0, .int .i64 y1] 100)); have S15 := Lib.hid (box_has (W := w8) #[.int .i64 0, .int .i64 0] #[.int .i64 y0, .int .i64 y1] 100); have c15 := S15.out.cell; replace ct := EE.out.tab.cell; replace cm := EE.out.man.cell; replace cs := EE.out.sp.cell; replace c9 := S9.out.cell; replace c11 := S11.out.cell; replace c13 := S13.out.cell; clear hb)
                | (refine wpList_store_all rfl 100 _ _ rfl w8.heap.size rfl _ rfl 100 _ (Has.new w8 100 _) (by kernel_rfl) rfl (by simp [Value.oneCell']) ?_; generalize (w8.alloc (.cells #[.int .i64 0, .int .i64 0] 100)).setRow w8.heap.size #[.int .i64 y0, .int .i64 y1] = w8' at *)
                | (go_at_call 15; refine (knownLaw_c _).mono ?_; rintro e w9 ⟨rfl, hb⟩; have HB := Lib.hid (nextB EE.out.below hb); clear hb))
              exact bodyPost_ret (results_tmp rfl _ _ _) rfl ⟨rfl, HB.out⟩
          | some x =>
            obtain ⟨x0, x1⟩ := x
            simp only [stE, optS, Option.getD_some, Option.isSome_some] at HSt HRS
            cases co with
            | none =>
              simp only [stE, optS, Option.getD_none, Option.isSome_none] at HCh HRC
              go_enter Tryz.func14, Tryz.ntmps14
              go_wp2_with (first
                | (go_at_call 26; refine (HSh.out _).mono ?_; rintro e w1 ⟨rfl, hb⟩; have EE := Lib.hid (E0.out.keep hb); have ct := EE.out.tab.cell; have cm := EE.out.man.cell; have cs := EE.out.sp.cell; clear hb)
                | (go_at_call 53; refine (HSt.out _ EE.out.below).mono ?_; rintro e w2 ⟨rfl, hb⟩; replace EE := Lib.hid (EE.out.keep hb); replace EE := Lib.hid (EE.out.keep (box_below (W := w2) #[.int .i64 0, .int .i64 0] #[.int .i64 x0, .int .i64 x1] 100)); have S9 := Lib.hid (box_has (W := w2) #[.int .i64 0, .int .i64 0] #[.int .i64 x0, .int .i64 x1] 100); have c9 := S9.out.cell; replace ct := EE.out.tab.cell; replace cm := EE.out.man.cell; replace cs := EE.out.sp.cell; clear hb)
                | (refine wpList_store_all rfl 100 _ _ rfl w2.heap.size rfl _ rfl 100 _ (Has.new w2 100 _) (by kernel_rfl) rfl (by simp [Value.oneCell']) ?_; generalize (w2.alloc (.cells #[.int .i64 0, .int .i64 0] 100)).setRow w2.heap.size #[.int .i64 x0, .int .i64 x1] = w2' at *)
                | (go_at_call 54; refine (HCh.out _ EE.out.below).mono ?_; rintro e w4 ⟨rfl, hb⟩; replace EE := Lib.hid (EE.out.keep hb); replace S9 := Lib.hid (S9.out.after hb); replace EE := Lib.hid (EE.out.keep (box_below (W := w4) #[.int .i64 0, .int .i64 0] #[.int .i64 0, .int .i64 0] 100)); replace S9 := Lib.hid (S9.out.after (box_below (W := w4) #[.int .i64 0, .int .i64 0] #[.int .i64 0, .int .i64 0] 100)); have S11 := Lib.hid (box_has (W := w4) #[.int .i64 0, .int .i64 0] #[.int .i64 0, .int .i64 0] 100); have c11 := S11.out.cell; replace ct := EE.out.tab.cell; replace cm := EE.out.man.cell; replace cs := EE.out.sp.cell; replace c9 := S9.out.cell; clear hb)
                | (refine wpList_store_all rfl 100 _ _ rfl w4.heap.size rfl _ rfl 100 _ (Has.new w4 100 _) (by kernel_rfl) rfl (by simp [Value.oneCell']) ?_; generalize (w4.alloc (.cells #[.int .i64 0, .int .i64 0] 100)).setRow w4.heap.size #[.int .i64 0, .int .i64 0] = w4' at *)
                | (go_at_call 32; refine (HFi.out _ EE.out.below).mono ?_; rintro e w5 ⟨rfl, hb⟩; replace EE := Lib.hid (EE.out.keep hb); replace S9 := Lib.hid (S9.out.after hb); replace S11 := Lib.hid (S11.out.after hb); replace ct := EE.out.tab.cell; replace cm := EE.out.man.cell; replace cs := EE.out.sp.cell; replace c9 := S9.out.cell; replace c11 := S11.out.cell; clear hb)
                | (go_at_call 55; refine (HRS.out _ EE.out.below).mono ?_; rintro e w6 ⟨rfl, hb⟩; replace EE := Lib.hid (EE.out.keep hb); replace S9 := Lib.hid (S9.out.after hb); replace S11 := Lib.hid (S11.out.after hb); replace EE := Lib.hid (EE.out.keep (box_below (W := w6) #[.int .i64 0, .int .i64 0] #[.int .i64 x0, .int .i64 x1] 100)); replace S9 := Lib.hid (S9.out.after (box_below (W := w6) #[.int .i64 0, .int .i64 0] #[.int .i64 x0, .int .i64 x1] 100)); replace S11 := Lib.hid (S11.out.after (box_below (W := w6) #[.int .i64 0, .int .i64 0] #[.int .i64 x0, .int .i64 x1] 100)); have S13 := Lib.hid (box_has (W := w6) #[.int .i64 0, .int .i64 0] #[.int .i64 x0, .int .i64 x1] 100); have c13 := S13.out.cell; replace ct := EE.out.tab.cell; replace cm := EE.out.man.cell; replace cs := EE.out.sp.cell; replace c9 := S9.out.cell; replace c11 := S11.out.cell; clear hb)
                | (refine wpList_store_all rfl 100 _ _ rfl w6.heap.size rfl _ rfl 100 _ (Has.new w6 100 _) (by kernel_rfl) rfl (by simp [Value.oneCell']) ?_; generalize (w6.alloc (.cells #[.int .i64 0, .int .i64 0] 100)).setRow w6.heap.size #[.int .i64 x0, .int .i64 x1] = w6' at *)
                | (go_at_call 56; refine (HTi.out _).mono ?_; rintro e w7 ⟨rfl, hb⟩; replace EE := Lib.hid (EE.out.keep hb); replace S9 := Lib.hid (S9.out.after hb); replace S11 := Lib.hid (S11.out.after hb); replace S13 := Lib.hid (S13.out.after hb); replace ct := EE.out.tab.cell; replace cm := EE.out.man.cell; replace cs := EE.out.sp.cell; replace c9 := S9.out.cell; replace c11 := S11.out.cell; replace c13 := S13.out.cell; clear hb)
                | (go_at_call 57; refine (HRC.out _ EE.out.below).mono ?_; rintro e w8 ⟨rfl, hb⟩; replace EE := Lib.hid (EE.out.keep hb); replace S9 := Lib.hid (S9.out.after hb); replace S11 := Lib.hid (S11.out.after hb); replace S13 := Lib.hid (S13.out.after hb); replace EE := Lib.hid (EE.out.keep (box_below (W := w8) #[.int .i64 0, .int .i64 0] #[.int .i64 0, .int .i64 0] 100)); replace S9 := Lib.hid (S9.out.after (box_below (W := w8) #[.int .i64 0, .int .i64 0] #[.int .i64 0, .int .i64 0] 100)); replace S11 := Lib.hid (S11.out.after (box_below (W := w8) #[.int .i64 0, .int .i64 0] #[.int .i64 0, .int .i64 0] 100)); replace S13 := Lib.hid (S13.out.after (box_below (W := w8) #[.int .i64 0, .int .i64 0] #[.int .i64 0, .int .i64 0] 100)); have S15 := Lib.hid (box_has (W := w8) #[.int .i64 0, .int .i64 0] #[.int .i64 0, .int .i64 0] 100); have c15 := S15.out.cell; replace ct := EE.out.tab.cell; replace cm := EE.out.man.cell; replace cs := EE.out.sp.cell; replace c9 := S9.out.cell; replace c11 := S11.out.cell; replace c13 := S13.out.cell; clear hb)
                | (refine wpList_store_all rfl 100 _ _ rfl w8.heap.size rfl _ rfl 100 _ (Has.new w8 100 _) (by kernel_rfl) rfl (by simp [Value.oneCell']) ?_; generalize (w8.alloc (.cells #[.int .i64 0, .int .i64 0] 100)).setRow w8.heap.size #[.int .i64 0, .int .i64 0] = w8' at *)
                | (go_at_call 15; refine (knownLaw_c _).mono ?_; rintro e w9 ⟨rfl, hb⟩; have HB := Lib.hid (nextB EE.out.below hb); clear hb))
              exact bodyPost_ret (results_tmp rfl _ _ _) rfl ⟨rfl, HB.out⟩
            | some y =>
              obtain ⟨y0, y1⟩ := y
              simp only [stE, optS, Option.getD_some, Option.isSome_some] at HCh HRC
              go_enter Tryz.func14, Tryz.ntmps14
              go_wp2_with (first
                | (go_at_call 26; refine (HSh.out _).mono ?_; rintro e w1 ⟨rfl, hb⟩; have EE := Lib.hid (E0.out.keep hb); have ct := EE.out.tab.cell; have cm := EE.out.man.cell; have cs := EE.out.sp.cell; clear hb)
                | (go_at_call 53; refine (HSt.out _ EE.out.below).mono ?_; rintro e w2 ⟨rfl, hb⟩; replace EE := Lib.hid (EE.out.keep hb); replace EE := Lib.hid (EE.out.keep (box_below (W := w2) #[.int .i64 0, .int .i64 0] #[.int .i64 x0, .int .i64 x1] 100)); have S9 := Lib.hid (box_has (W := w2) #[.int .i64 0, .int .i64 0] #[.int .i64 x0, .int .i64 x1] 100); have c9 := S9.out.cell; replace ct := EE.out.tab.cell; replace cm := EE.out.man.cell; replace cs := EE.out.sp.cell; clear hb)
                | (refine wpList_store_all rfl 100 _ _ rfl w2.heap.size rfl _ rfl 100 _ (Has.new w2 100 _) (by kernel_rfl) rfl (by simp [Value.oneCell']) ?_; generalize (w2.alloc (.cells #[.int .i64 0, .int .i64 0] 100)).setRow w2.heap.size #[.int .i64 x0, .int .i64 x1] = w2' at *)
                | (go_at_call 54; refine (HCh.out _ EE.out.below).mono ?_; rintro e w4 ⟨rfl, hb⟩; replace EE := Lib.hid (EE.out.keep hb); replace S9 := Lib.hid (S9.out.after hb); replace EE := Lib.hid (EE.out.keep (box_below (W := w4) #[.int .i64 0, .int .i64 0] #[.int .i64 y0, .int .i64 y1] 100)); replace S9 := Lib.hid (S9.out.after (box_below (W := w4) #[.int .i64 0, .int .i64 0] #[.int .i64 y0, .int .i64 y1] 100)); have S11 := Lib.hid (box_has (W := w4) #[.int .i64 0, .int .i64 0] #[.int .i64 y0, .int .i64 y1] 100); have c11 := S11.out.cell; replace ct := EE.out.tab.cell; replace cm := EE.out.man.cell; replace cs := EE.out.sp.cell; replace c9 := S9.out.cell; clear hb)
                | (refine wpList_store_all rfl 100 _ _ rfl w4.heap.size rfl _ rfl 100 _ (Has.new w4 100 _) (by kernel_rfl) rfl (by simp [Value.oneCell']) ?_; generalize (w4.alloc (.cells #[.int .i64 0, .int .i64 0] 100)).setRow w4.heap.size #[.int .i64 y0, .int .i64 y1] = w4' at *)
                | (go_at_call 32; refine (HFi.out _ EE.out.below).mono ?_; rintro e w5 ⟨rfl, hb⟩; replace EE := Lib.hid (EE.out.keep hb); replace S9 := Lib.hid (S9.out.after hb); replace S11 := Lib.hid (S11.out.after hb); replace ct := EE.out.tab.cell; replace cm := EE.out.man.cell; replace cs := EE.out.sp.cell; replace c9 := S9.out.cell; replace c11 := S11.out.cell; clear hb)
                | (go_at_call 55; refine (HRS.out _ EE.out.below).mono ?_; rintro e w6 ⟨rfl, hb⟩; replace EE := Lib.hid (EE.out.keep hb); replace S9 := Lib.hid (S9.out.after hb); replace S11 := Lib.hid (S11.out.after hb); replace EE := Lib.hid (EE.out.keep (box_below (W := w6) #[.int .i64 0, .int .i64 0] #[.int .i64 x0, .int .i64 x1] 100)); replace S9 := Lib.hid (S9.out.after (box_below (W := w6) #[.int .i64 0, .int .i64 0] #[.int .i64 x0, .int .i64 x1] 100)); replace S11 := Lib.hid (S11.out.after (box_below (W := w6) #[.int .i64 0, .int .i64 0] #[.int .i64 x0, .int .i64 x1] 100)); have S13 := Lib.hid (box_has (W := w6) #[.int .i64 0, .int .i64 0] #[.int .i64 x0, .int .i64 x1] 100); have c13 := S13.out.cell; replace ct := EE.out.tab.cell; replace cm := EE.out.man.cell; replace cs := EE.out.sp.cell; replace c9 := S9.out.cell; replace c11 := S11.out.cell; clear hb)
                | (refine wpList_store_all rfl 100 _ _ rfl w6.heap.size rfl _ rfl 100 _ (Has.new w6 100 _) (by kernel_rfl) rfl (by simp [Value.oneCell']) ?_; generalize (w6.alloc (.cells #[.int .i64 0, .int .i64 0] 100)).setRow w6.heap.size #[.int .i64 x0, .int .i64 x1] = w6' at *)
                | (go_at_call 56; refine (HTi.out _).mono ?_; rintro e w7 ⟨rfl, hb⟩; replace EE := Lib.hid (EE.out.keep hb); replace S9 := Lib.hid (S9.out.after hb); replace S11 := Lib.hid (S11.out.after hb); replace S13 := Lib.hid (S13.out.after hb); replace ct := EE.out.tab.cell; replace cm := EE.out.man.cell; replace cs := EE.out.sp.cell; replace c9 := S9.out.cell; replace c11 := S11.out.cell; replace c13 := S13.out.cell; clear hb)
                | (go_at_call 57; refine (HRC.out _ EE.out.below).mono ?_; rintro e w8 ⟨rfl, hb⟩; replace EE := Lib.hid (EE.out.keep hb); replace S9 := Lib.hid (S9.out.after hb); replace S11 := Lib.hid (S11.out.after hb); replace S13 := Lib.hid (S13.out.after hb); replace EE := Lib.hid (EE.out.keep (box_below (W := w8) #[.int .i64 0, .int .i64 0] #[.int .i64 y0, .int .i64 y1] 100)); replace S9 := Lib.hid (S9.out.after (box_below (W := w8) #[.int .i64 0, .int .i64 0] #[.int .i64 y0, .int .i64 y1] 100)); replace S11 := Lib.hid (S11.out.after (box_below (W := w8) #[.int .i64 0, .int .i64 0] #[.int .i64 y0, .int .i64 y1] 100)); replace S13 := Lib.hid (S13.out.after (box_below (W := w8) #[.int .i64 0, .int .i64 0] #[.int .i64 y0, .int .i64 y1] 100)); have S15 := Lib.hid (box_has (W := w8) #[.int .i64 0, .int .i64 0] #[.int .i64 y0, .int .i64 y1] 100); have c15 := S15.out.cell; replace ct := EE.out.tab.cell; replace cm := EE.out.man.cell; replace cs := EE.out.sp.cell; replace c9 := S9.out.cell; replace c11 := S11.out.cell; replace c13 := S13.out.cell; clear hb)
                | (refine wpList_store_all rfl 100 _ _ rfl w8.heap.size rfl _ rfl 100 _ (Has.new w8 100 _) (by kernel_rfl) rfl (by simp [Value.oneCell']) ?_; generalize (w8.alloc (.cells #[.int .i64 0, .int .i64 0] 100)).setRow w8.heap.size #[.int .i64 y0, .int .i64 y1] = w8' at *)
                | (go_at_call 15; refine (knownLaw_c _).mono ?_; rintro e w9 ⟨rfl, hb⟩; have HB := Lib.hid (nextB EE.out.below hb); clear hb))
              exact bodyPost_ret (results_tmp rfl _ _ _) rfl ⟨rfl, HB.out⟩
        · rw [show chamF t dive l g = ((0, 0), 2) by
            rw [chamF, hd2, if_neg]
            simp only [Bool.and_eq_true, decide_eq_true_eq]
            rintro ⟨h1, h2⟩
            exact hc ⟨h2, by omega⟩] at HCh
          simp only [stE] at HCh
          have HC := Lib.hid hc
          clear hs hi hd hsm hdb hd1 hd2 hln hok hds hss hrn hsn HRC hc
          obtain ⟨pA, sA, rA, pn, pc, sn, sc, rn, rc, ps, ss, rs⟩ := t
          simp only [Tm.tab, Tm.man] at *
          cases ho : ordB l g 0 120 6
          · rw [ho] at HTi
            clear ho HC
            cases so with
            | none =>
              simp only [stE, optS, Option.getD_none, Option.isSome_none] at HSt HRS
              go_enter Tryz.func14, Tryz.ntmps14
              go_wp2_with (first
                | (go_at_call 26; refine (HSh.out _).mono ?_; rintro e w1 ⟨rfl, hb⟩; have EE := Lib.hid (E0.out.keep hb); have ct := EE.out.tab.cell; have cm := EE.out.man.cell; have cs := EE.out.sp.cell; clear hb)
                | (go_at_call 53; refine (HSt.out _ EE.out.below).mono ?_; rintro e w2 ⟨rfl, hb⟩; replace EE := Lib.hid (EE.out.keep hb); replace EE := Lib.hid (EE.out.keep (box_below (W := w2) #[.int .i64 0, .int .i64 0] #[.int .i64 0, .int .i64 0] 100)); have S9 := Lib.hid (box_has (W := w2) #[.int .i64 0, .int .i64 0] #[.int .i64 0, .int .i64 0] 100); have c9 := S9.out.cell; replace ct := EE.out.tab.cell; replace cm := EE.out.man.cell; replace cs := EE.out.sp.cell; clear hb)
                | (refine wpList_store_all rfl 100 _ _ rfl w2.heap.size rfl _ rfl 100 _ (Has.new w2 100 _) (by kernel_rfl) rfl (by simp [Value.oneCell']) ?_; generalize (w2.alloc (.cells #[.int .i64 0, .int .i64 0] 100)).setRow w2.heap.size #[.int .i64 0, .int .i64 0] = w2' at *)
                | (go_at_call 54; refine (HCh.out _ EE.out.below).mono ?_; rintro e w4 ⟨rfl, hb⟩; replace EE := Lib.hid (EE.out.keep hb); replace S9 := Lib.hid (S9.out.after hb); replace EE := Lib.hid (EE.out.keep (box_below (W := w4) #[.int .i64 0, .int .i64 0] #[.int .i64 0, .int .i64 0] 100)); replace S9 := Lib.hid (S9.out.after (box_below (W := w4) #[.int .i64 0, .int .i64 0] #[.int .i64 0, .int .i64 0] 100)); have S11 := Lib.hid (box_has (W := w4) #[.int .i64 0, .int .i64 0] #[.int .i64 0, .int .i64 0] 100); have c11 := S11.out.cell; replace ct := EE.out.tab.cell; replace cm := EE.out.man.cell; replace cs := EE.out.sp.cell; replace c9 := S9.out.cell; clear hb)
                | (refine wpList_store_all rfl 100 _ _ rfl w4.heap.size rfl _ rfl 100 _ (Has.new w4 100 _) (by kernel_rfl) rfl (by simp [Value.oneCell']) ?_; generalize (w4.alloc (.cells #[.int .i64 0, .int .i64 0] 100)).setRow w4.heap.size #[.int .i64 0, .int .i64 0] = w4' at *)
                | (go_at_call 32; refine (HFi.out _ EE.out.below).mono ?_; rintro e w5 ⟨rfl, hb⟩; replace EE := Lib.hid (EE.out.keep hb); replace S9 := Lib.hid (S9.out.after hb); replace S11 := Lib.hid (S11.out.after hb); replace ct := EE.out.tab.cell; replace cm := EE.out.man.cell; replace cs := EE.out.sp.cell; replace c9 := S9.out.cell; replace c11 := S11.out.cell; clear hb)
                | (go_at_call 55; refine (HRS.out _ EE.out.below).mono ?_; rintro e w6 ⟨rfl, hb⟩; replace EE := Lib.hid (EE.out.keep hb); replace S9 := Lib.hid (S9.out.after hb); replace S11 := Lib.hid (S11.out.after hb); replace EE := Lib.hid (EE.out.keep (box_below (W := w6) #[.int .i64 0, .int .i64 0] #[.int .i64 0, .int .i64 0] 100)); replace S9 := Lib.hid (S9.out.after (box_below (W := w6) #[.int .i64 0, .int .i64 0] #[.int .i64 0, .int .i64 0] 100)); replace S11 := Lib.hid (S11.out.after (box_below (W := w6) #[.int .i64 0, .int .i64 0] #[.int .i64 0, .int .i64 0] 100)); have S13 := Lib.hid (box_has (W := w6) #[.int .i64 0, .int .i64 0] #[.int .i64 0, .int .i64 0] 100); have c13 := S13.out.cell; replace ct := EE.out.tab.cell; replace cm := EE.out.man.cell; replace cs := EE.out.sp.cell; replace c9 := S9.out.cell; replace c11 := S11.out.cell; clear hb)
                | (refine wpList_store_all rfl 100 _ _ rfl w6.heap.size rfl _ rfl 100 _ (Has.new w6 100 _) (by kernel_rfl) rfl (by simp [Value.oneCell']) ?_; generalize (w6.alloc (.cells #[.int .i64 0, .int .i64 0] 100)).setRow w6.heap.size #[.int .i64 0, .int .i64 0] = w6' at *)
                | (go_at_call 56; refine (HTi.out _).mono ?_; rintro e w7 ⟨rfl, hb⟩; replace EE := Lib.hid (EE.out.keep hb); replace S9 := Lib.hid (S9.out.after hb); replace S11 := Lib.hid (S11.out.after hb); replace S13 := Lib.hid (S13.out.after hb); replace ct := EE.out.tab.cell; replace cm := EE.out.man.cell; replace cs := EE.out.sp.cell; replace c9 := S9.out.cell; replace c11 := S11.out.cell; replace c13 := S13.out.cell; clear hb)
                | (go_at_call 15; refine (knownLaw_c _).mono ?_; rintro e w9 ⟨rfl, hb⟩; have HB := Lib.hid (nextB EE.out.below hb); clear hb))
              exact bodyPost_ret (results_tmp rfl _ _ _) rfl ⟨rfl, HB.out⟩
            | some x =>
              obtain ⟨x0, x1⟩ := x
              simp only [stE, optS, Option.getD_some, Option.isSome_some] at HSt HRS
              go_enter Tryz.func14, Tryz.ntmps14
              go_wp2_with (first
                | (go_at_call 26; refine (HSh.out _).mono ?_; rintro e w1 ⟨rfl, hb⟩; have EE := Lib.hid (E0.out.keep hb); have ct := EE.out.tab.cell; have cm := EE.out.man.cell; have cs := EE.out.sp.cell; clear hb)
                | (go_at_call 53; refine (HSt.out _ EE.out.below).mono ?_; rintro e w2 ⟨rfl, hb⟩; replace EE := Lib.hid (EE.out.keep hb); replace EE := Lib.hid (EE.out.keep (box_below (W := w2) #[.int .i64 0, .int .i64 0] #[.int .i64 x0, .int .i64 x1] 100)); have S9 := Lib.hid (box_has (W := w2) #[.int .i64 0, .int .i64 0] #[.int .i64 x0, .int .i64 x1] 100); have c9 := S9.out.cell; replace ct := EE.out.tab.cell; replace cm := EE.out.man.cell; replace cs := EE.out.sp.cell; clear hb)
                | (refine wpList_store_all rfl 100 _ _ rfl w2.heap.size rfl _ rfl 100 _ (Has.new w2 100 _) (by kernel_rfl) rfl (by simp [Value.oneCell']) ?_; generalize (w2.alloc (.cells #[.int .i64 0, .int .i64 0] 100)).setRow w2.heap.size #[.int .i64 x0, .int .i64 x1] = w2' at *)
                | (go_at_call 54; refine (HCh.out _ EE.out.below).mono ?_; rintro e w4 ⟨rfl, hb⟩; replace EE := Lib.hid (EE.out.keep hb); replace S9 := Lib.hid (S9.out.after hb); replace EE := Lib.hid (EE.out.keep (box_below (W := w4) #[.int .i64 0, .int .i64 0] #[.int .i64 0, .int .i64 0] 100)); replace S9 := Lib.hid (S9.out.after (box_below (W := w4) #[.int .i64 0, .int .i64 0] #[.int .i64 0, .int .i64 0] 100)); have S11 := Lib.hid (box_has (W := w4) #[.int .i64 0, .int .i64 0] #[.int .i64 0, .int .i64 0] 100); have c11 := S11.out.cell; replace ct := EE.out.tab.cell; replace cm := EE.out.man.cell; replace cs := EE.out.sp.cell; replace c9 := S9.out.cell; clear hb)
                | (refine wpList_store_all rfl 100 _ _ rfl w4.heap.size rfl _ rfl 100 _ (Has.new w4 100 _) (by kernel_rfl) rfl (by simp [Value.oneCell']) ?_; generalize (w4.alloc (.cells #[.int .i64 0, .int .i64 0] 100)).setRow w4.heap.size #[.int .i64 0, .int .i64 0] = w4' at *)
                | (go_at_call 32; refine (HFi.out _ EE.out.below).mono ?_; rintro e w5 ⟨rfl, hb⟩; replace EE := Lib.hid (EE.out.keep hb); replace S9 := Lib.hid (S9.out.after hb); replace S11 := Lib.hid (S11.out.after hb); replace ct := EE.out.tab.cell; replace cm := EE.out.man.cell; replace cs := EE.out.sp.cell; replace c9 := S9.out.cell; replace c11 := S11.out.cell; clear hb)
                | (go_at_call 55; refine (HRS.out _ EE.out.below).mono ?_; rintro e w6 ⟨rfl, hb⟩; replace EE := Lib.hid (EE.out.keep hb); replace S9 := Lib.hid (S9.out.after hb); replace S11 := Lib.hid (S11.out.after hb); replace EE := Lib.hid (EE.out.keep (box_below (W := w6) #[.int .i64 0, .int .i64 0] #[.int .i64 x0, .int .i64 x1] 100)); replace S9 := Lib.hid (S9.out.after (box_below (W := w6) #[.int .i64 0, .int .i64 0] #[.int .i64 x0, .int .i64 x1] 100)); replace S11 := Lib.hid (S11.out.after (box_below (W := w6) #[.int .i64 0, .int .i64 0] #[.int .i64 x0, .int .i64 x1] 100)); have S13 := Lib.hid (box_has (W := w6) #[.int .i64 0, .int .i64 0] #[.int .i64 x0, .int .i64 x1] 100); have c13 := S13.out.cell; replace ct := EE.out.tab.cell; replace cm := EE.out.man.cell; replace cs := EE.out.sp.cell; replace c9 := S9.out.cell; replace c11 := S11.out.cell; clear hb)
                | (refine wpList_store_all rfl 100 _ _ rfl w6.heap.size rfl _ rfl 100 _ (Has.new w6 100 _) (by kernel_rfl) rfl (by simp [Value.oneCell']) ?_; generalize (w6.alloc (.cells #[.int .i64 0, .int .i64 0] 100)).setRow w6.heap.size #[.int .i64 x0, .int .i64 x1] = w6' at *)
                | (go_at_call 56; refine (HTi.out _).mono ?_; rintro e w7 ⟨rfl, hb⟩; replace EE := Lib.hid (EE.out.keep hb); replace S9 := Lib.hid (S9.out.after hb); replace S11 := Lib.hid (S11.out.after hb); replace S13 := Lib.hid (S13.out.after hb); replace ct := EE.out.tab.cell; replace cm := EE.out.man.cell; replace cs := EE.out.sp.cell; replace c9 := S9.out.cell; replace c11 := S11.out.cell; replace c13 := S13.out.cell; clear hb)
                | (go_at_call 15; refine (knownLaw_c _).mono ?_; rintro e w9 ⟨rfl, hb⟩; have HB := Lib.hid (nextB EE.out.below hb); clear hb))
              exact bodyPost_ret (results_tmp rfl _ _ _) rfl ⟨rfl, HB.out⟩
          · rw [ho] at HTi
            have hn3' : n = 3 := by have := HC.out; rw [ho] at this; simp at this; omega
            subst hn3'
            clear ho HC
            cases so with
            | none =>
              simp only [stE, optS, Option.getD_none, Option.isSome_none] at HSt HRS
              go_enter Tryz.func14, Tryz.ntmps14
              go_wp2_with (first
                | (go_at_call 26; refine (HSh.out _).mono ?_; rintro e w1 ⟨rfl, hb⟩; have EE := Lib.hid (E0.out.keep hb); have ct := EE.out.tab.cell; have cm := EE.out.man.cell; have cs := EE.out.sp.cell; clear hb)
                | (go_at_call 53; refine (HSt.out _ EE.out.below).mono ?_; rintro e w2 ⟨rfl, hb⟩; replace EE := Lib.hid (EE.out.keep hb); replace EE := Lib.hid (EE.out.keep (box_below (W := w2) #[.int .i64 0, .int .i64 0] #[.int .i64 0, .int .i64 0] 100)); have S9 := Lib.hid (box_has (W := w2) #[.int .i64 0, .int .i64 0] #[.int .i64 0, .int .i64 0] 100); have c9 := S9.out.cell; replace ct := EE.out.tab.cell; replace cm := EE.out.man.cell; replace cs := EE.out.sp.cell; clear hb)
                | (refine wpList_store_all rfl 100 _ _ rfl w2.heap.size rfl _ rfl 100 _ (Has.new w2 100 _) (by kernel_rfl) rfl (by simp [Value.oneCell']) ?_; generalize (w2.alloc (.cells #[.int .i64 0, .int .i64 0] 100)).setRow w2.heap.size #[.int .i64 0, .int .i64 0] = w2' at *)
                | (go_at_call 54; refine (HCh.out _ EE.out.below).mono ?_; rintro e w4 ⟨rfl, hb⟩; replace EE := Lib.hid (EE.out.keep hb); replace S9 := Lib.hid (S9.out.after hb); replace EE := Lib.hid (EE.out.keep (box_below (W := w4) #[.int .i64 0, .int .i64 0] #[.int .i64 0, .int .i64 0] 100)); replace S9 := Lib.hid (S9.out.after (box_below (W := w4) #[.int .i64 0, .int .i64 0] #[.int .i64 0, .int .i64 0] 100)); have S11 := Lib.hid (box_has (W := w4) #[.int .i64 0, .int .i64 0] #[.int .i64 0, .int .i64 0] 100); have c11 := S11.out.cell; replace ct := EE.out.tab.cell; replace cm := EE.out.man.cell; replace cs := EE.out.sp.cell; replace c9 := S9.out.cell; clear hb)
                | (refine wpList_store_all rfl 100 _ _ rfl w4.heap.size rfl _ rfl 100 _ (Has.new w4 100 _) (by kernel_rfl) rfl (by simp [Value.oneCell']) ?_; generalize (w4.alloc (.cells #[.int .i64 0, .int .i64 0] 100)).setRow w4.heap.size #[.int .i64 0, .int .i64 0] = w4' at *)
                | (go_at_call 32; refine (HFi.out _ EE.out.below).mono ?_; rintro e w5 ⟨rfl, hb⟩; replace EE := Lib.hid (EE.out.keep hb); replace S9 := Lib.hid (S9.out.after hb); replace S11 := Lib.hid (S11.out.after hb); replace ct := EE.out.tab.cell; replace cm := EE.out.man.cell; replace cs := EE.out.sp.cell; replace c9 := S9.out.cell; replace c11 := S11.out.cell; clear hb)
                | (go_at_call 55; refine (HRS.out _ EE.out.below).mono ?_; rintro e w6 ⟨rfl, hb⟩; replace EE := Lib.hid (EE.out.keep hb); replace S9 := Lib.hid (S9.out.after hb); replace S11 := Lib.hid (S11.out.after hb); replace EE := Lib.hid (EE.out.keep (box_below (W := w6) #[.int .i64 0, .int .i64 0] #[.int .i64 0, .int .i64 0] 100)); replace S9 := Lib.hid (S9.out.after (box_below (W := w6) #[.int .i64 0, .int .i64 0] #[.int .i64 0, .int .i64 0] 100)); replace S11 := Lib.hid (S11.out.after (box_below (W := w6) #[.int .i64 0, .int .i64 0] #[.int .i64 0, .int .i64 0] 100)); have S13 := Lib.hid (box_has (W := w6) #[.int .i64 0, .int .i64 0] #[.int .i64 0, .int .i64 0] 100); have c13 := S13.out.cell; replace ct := EE.out.tab.cell; replace cm := EE.out.man.cell; replace cs := EE.out.sp.cell; replace c9 := S9.out.cell; replace c11 := S11.out.cell; clear hb)
                | (refine wpList_store_all rfl 100 _ _ rfl w6.heap.size rfl _ rfl 100 _ (Has.new w6 100 _) (by kernel_rfl) rfl (by simp [Value.oneCell']) ?_; generalize (w6.alloc (.cells #[.int .i64 0, .int .i64 0] 100)).setRow w6.heap.size #[.int .i64 0, .int .i64 0] = w6' at *)
                | (go_at_call 56; refine (HTi.out _).mono ?_; rintro e w7 ⟨rfl, hb⟩; replace EE := Lib.hid (EE.out.keep hb); replace S9 := Lib.hid (S9.out.after hb); replace S11 := Lib.hid (S11.out.after hb); replace S13 := Lib.hid (S13.out.after hb); replace ct := EE.out.tab.cell; replace cm := EE.out.man.cell; replace cs := EE.out.sp.cell; replace c9 := S9.out.cell; replace c11 := S11.out.cell; replace c13 := S13.out.cell; clear hb)
                | (go_at_call 15; refine (knownLaw_c _).mono ?_; rintro e w9 ⟨rfl, hb⟩; have HB := Lib.hid (nextB EE.out.below hb); clear hb))
              exact bodyPost_ret (results_tmp rfl _ _ _) rfl ⟨rfl, HB.out⟩
            | some x =>
              obtain ⟨x0, x1⟩ := x
              simp only [stE, optS, Option.getD_some, Option.isSome_some] at HSt HRS
              go_enter Tryz.func14, Tryz.ntmps14
              go_wp2_with (first
                | (go_at_call 26; refine (HSh.out _).mono ?_; rintro e w1 ⟨rfl, hb⟩; have EE := Lib.hid (E0.out.keep hb); have ct := EE.out.tab.cell; have cm := EE.out.man.cell; have cs := EE.out.sp.cell; clear hb)
                | (go_at_call 53; refine (HSt.out _ EE.out.below).mono ?_; rintro e w2 ⟨rfl, hb⟩; replace EE := Lib.hid (EE.out.keep hb); replace EE := Lib.hid (EE.out.keep (box_below (W := w2) #[.int .i64 0, .int .i64 0] #[.int .i64 x0, .int .i64 x1] 100)); have S9 := Lib.hid (box_has (W := w2) #[.int .i64 0, .int .i64 0] #[.int .i64 x0, .int .i64 x1] 100); have c9 := S9.out.cell; replace ct := EE.out.tab.cell; replace cm := EE.out.man.cell; replace cs := EE.out.sp.cell; clear hb)
                | (refine wpList_store_all rfl 100 _ _ rfl w2.heap.size rfl _ rfl 100 _ (Has.new w2 100 _) (by kernel_rfl) rfl (by simp [Value.oneCell']) ?_; generalize (w2.alloc (.cells #[.int .i64 0, .int .i64 0] 100)).setRow w2.heap.size #[.int .i64 x0, .int .i64 x1] = w2' at *)
                | (go_at_call 54; refine (HCh.out _ EE.out.below).mono ?_; rintro e w4 ⟨rfl, hb⟩; replace EE := Lib.hid (EE.out.keep hb); replace S9 := Lib.hid (S9.out.after hb); replace EE := Lib.hid (EE.out.keep (box_below (W := w4) #[.int .i64 0, .int .i64 0] #[.int .i64 0, .int .i64 0] 100)); replace S9 := Lib.hid (S9.out.after (box_below (W := w4) #[.int .i64 0, .int .i64 0] #[.int .i64 0, .int .i64 0] 100)); have S11 := Lib.hid (box_has (W := w4) #[.int .i64 0, .int .i64 0] #[.int .i64 0, .int .i64 0] 100); have c11 := S11.out.cell; replace ct := EE.out.tab.cell; replace cm := EE.out.man.cell; replace cs := EE.out.sp.cell; replace c9 := S9.out.cell; clear hb)
                | (refine wpList_store_all rfl 100 _ _ rfl w4.heap.size rfl _ rfl 100 _ (Has.new w4 100 _) (by kernel_rfl) rfl (by simp [Value.oneCell']) ?_; generalize (w4.alloc (.cells #[.int .i64 0, .int .i64 0] 100)).setRow w4.heap.size #[.int .i64 0, .int .i64 0] = w4' at *)
                | (go_at_call 32; refine (HFi.out _ EE.out.below).mono ?_; rintro e w5 ⟨rfl, hb⟩; replace EE := Lib.hid (EE.out.keep hb); replace S9 := Lib.hid (S9.out.after hb); replace S11 := Lib.hid (S11.out.after hb); replace ct := EE.out.tab.cell; replace cm := EE.out.man.cell; replace cs := EE.out.sp.cell; replace c9 := S9.out.cell; replace c11 := S11.out.cell; clear hb)
                | (go_at_call 55; refine (HRS.out _ EE.out.below).mono ?_; rintro e w6 ⟨rfl, hb⟩; replace EE := Lib.hid (EE.out.keep hb); replace S9 := Lib.hid (S9.out.after hb); replace S11 := Lib.hid (S11.out.after hb); replace EE := Lib.hid (EE.out.keep (box_below (W := w6) #[.int .i64 0, .int .i64 0] #[.int .i64 x0, .int .i64 x1] 100)); replace S9 := Lib.hid (S9.out.after (box_below (W := w6) #[.int .i64 0, .int .i64 0] #[.int .i64 x0, .int .i64 x1] 100)); replace S11 := Lib.hid (S11.out.after (box_below (W := w6) #[.int .i64 0, .int .i64 0] #[.int .i64 x0, .int .i64 x1] 100)); have S13 := Lib.hid (box_has (W := w6) #[.int .i64 0, .int .i64 0] #[.int .i64 x0, .int .i64 x1] 100); have c13 := S13.out.cell; replace ct := EE.out.tab.cell; replace cm := EE.out.man.cell; replace cs := EE.out.sp.cell; replace c9 := S9.out.cell; replace c11 := S11.out.cell; clear hb)
                | (refine wpList_store_all rfl 100 _ _ rfl w6.heap.size rfl _ rfl 100 _ (Has.new w6 100 _) (by kernel_rfl) rfl (by simp [Value.oneCell']) ?_; generalize (w6.alloc (.cells #[.int .i64 0, .int .i64 0] 100)).setRow w6.heap.size #[.int .i64 x0, .int .i64 x1] = w6' at *)
                | (go_at_call 56; refine (HTi.out _).mono ?_; rintro e w7 ⟨rfl, hb⟩; replace EE := Lib.hid (EE.out.keep hb); replace S9 := Lib.hid (S9.out.after hb); replace S11 := Lib.hid (S11.out.after hb); replace S13 := Lib.hid (S13.out.after hb); replace ct := EE.out.tab.cell; replace cm := EE.out.man.cell; replace cs := EE.out.sp.cell; replace c9 := S9.out.cell; replace c11 := S11.out.cell; replace c13 := S13.out.cell; clear hb)
                | (go_at_call 15; refine (knownLaw_c _).mono ?_; rintro e w9 ⟨rfl, hb⟩; have HB := Lib.hid (nextB EE.out.below hb); clear hb))
              exact bodyPost_ret (results_tmp rfl _ _ _) rfl ⟨rfl, HB.out⟩
end Go.Proofs
namespace Go.Proofs.YtahochgbkhpefaaGreatDoor.gasStops
open Go.ChangeShapes Go.WideShapes Go.ChangeAt Go.RowKit Go.Proofs

theorem own : ownKnob Tryz.prog.godebug = none := by kernel_rfl
theorem laidOut : laidOutB Tryz.prog = true := by kernel_rfl
theorem door_met (os : Os) (args : Array Value) : laidMetH Tryz.prog Rows.gasStopsRow.laid ((World.doorLaid Tryz.prog 400 os).forCall (fun _ _ => 0) ⟨#[], args, []⟩).memory :=
  laidMetH_of_parts3 (fuel := 8) (laidMet_of_run' 8 (by kernel_rfl) (by kernel_rfl)) (by kernel_rfl) (by kernel_rfl)

set_option maxRecDepth 100000 in
theorem lifted (os : Os) (started : os.Started) (H : Type) (enc : TypeId × Value → H) :
    ReturnsInHanded {} Tryz.checked os 14 .any (fun w args => (Rows.gasStopsSpec.pre enc Tryz.prog Tryz.f14 [] false w args ∧ laidMetH Tryz.prog Rows.gasStopsRow.laid w) ∧ sizedMet enc Tryz.prog Tryz.f14 (OpenSpec.ofChange Rows.gasStopsSpec) false w args)
      (Rows.gasStopsSpec.post enc Tryz.prog Tryz.f14 false true false false) := by
  refine returnsInHanded_of_change_and (C := Tryz.checked) (X := fun w _ => laidMetH Tryz.prog Rows.gasStopsRow.laid w) (fun _ _ _ hh h => h.of_heap hh) own started (by kernel_rfl) Tryz.func14
    (ChangeSpec.witness_shaped (enc := enc) (C := Tryz.checked) (os := os) (X := fun w _ => laidMetH Tryz.prog Rows.gasStopsRow.laid w) false (World.doorLaid Tryz.prog 400 os) #[.agg #[.slice none 0 0, .slice none 0 0], .agg #[.slice none 0 0], .slice none 0 0, .agg #[.int .i64 0, .int .i64 0]] 8 rfl (World.shaped_of_RefB (by kernel_rfl) (by kernel_rfl)) (by kernel_rfl) (by kernel_rfl) (by kernel_rfl) (door_met os _)) ?_
  intro W base args ds gs before hval0 hW _ _ hL _
  have hval : ∀ (j : Nat) t v, Tryz.f14.params[j]? = some t → args[j]? = some v → Value.okWide Tryz.prog W .any base t v := hval0
  have hW' := hW
  obtain ⟨p, q, hA0, hV, rfl, hfz, hnd⟩ := hW
  have hA : DataW.TrodAll enc Tryz.prog W 0 (fun _ => true) true Tryz.f14.params.toList args.toList ds p := hA0
  rw [Tryz.params14] at hA hval
  obtain ⟨v0, vs0, d0, ds0, p0, q0, hargs, rfl, rfl, h0, r0⟩ := trodAll_cons hA
  obtain ⟨v1, vs1, d1, ds1, p1, q1, rfl, rfl, rfl, h1, r1⟩ := trodAll_cons r0
  obtain ⟨v2, vs2, d2, ds2, p2, q2, rfl, rfl, rfl, h2, r2⟩ := trodAll_cons r1
  obtain ⟨v3, vs3, d3, ds3, p3, q3, rfl, rfl, rfl, h3, r3⟩ := trodAll_cons r2
  obtain ⟨rfl, rfl, rfl⟩ := trodAll_nil r3
  obtain rfl : args = #[v0, v1, v2, v3] := by cases args; simp_all
  obtain ⟨rfl, rfl⟩ := trodVars_none hV
  have k0 := h0
  have lt0 : ∀ x ∈ p0, x.block < W.heap.size := by obtain ⟨m, hm⟩ := k0; exact DataW.trod_lt m _ _ _ hm
  have u0 := hval 0 50 v0 rfl rfl
  obtain ⟨pA, pn, pc, ps, sA, sn, sc, ss, rfl, hP, hS⟩ := arg_table u0 h0
  have k1 := h1
  have lt1 : ∀ x ∈ p1, x.block < W.heap.size := by obtain ⟨m, hm⟩ := k1; exact DataW.trod_lt m _ _ _ hm
  have u1 := hval 1 53 v1 rfl rfl
  obtain ⟨rA, rn, rc, rs, rfl, hR⟩ := arg_man u1 h1
  have k2 := h2
  have lt2 : ∀ x ∈ p2, x.block < W.heap.size := by obtain ⟨m, hm⟩ := k2; exact DataW.trod_lt m _ _ _ hm
  have u2 := hval 2 54 v2 rfl rfl
  obtain ⟨A2, n2, c2, l2, rfl, hd2, hc2, hm2, hA2⟩ := arg_dive u2 h2
  have k3 := h3
  have lt3 : ∀ x ∈ p3, x.block < W.heap.size := by obtain ⟨m, hm⟩ := k3; exact DataW.trod_lt m _ _ _ hm
  have u3 := hval 3 24 v3 rfl rfl
  obtain ⟨a3, b3, rfl, w3, x3⟩ := arg_span u3 h3
  clear hA0 hval0
  simp only [List.append_nil] at hW'
  refine (gasStops_walk ⟨pA, sA, rA, pn, pc, sn, sc, rn, rc, ps, ss, rs⟩ A2 n2 c2 l2 hA2 a3 b3 W ⟨hP, hS, hR⟩ hd2).mono fun e W' ⟨he, bel⟩ => ?_
  subst he
  exact ⟨_, rfl, _, _, _, [], _, [], hW', trodAll_mk1 (shut_bool Tryz.underlying4 _), (trodAll_cons_mk (Below.trod laidOut (by kernel_rfl) (of_decide_eq_true (by kernel_rfl)) k0 bel lt0) (trodAll_cons_mk (Below.trod laidOut (by kernel_rfl) (of_decide_eq_true (by kernel_rfl)) k1 bel lt1) (trodAll_cons_mk (Below.trod laidOut (by kernel_rfl) (of_decide_eq_true (by kernel_rfl)) k2 bel lt2) (trodAll_cons_mk (Below.trod laidOut (by kernel_rfl) (of_decide_eq_true (by kernel_rfl)) k3 bel lt3) trodAll_mk0)))), rfl, bel.frame _, fun h => by cases h⟩

theorem row_holds : Rows.GasStopsSaid :=
  OpenClaim.holds_of_wide 14 Tryz.f14 rfl rfl rfl rfl rfl rfl rfl ⟨rfl, rfl, rfl, rfl, rfl⟩ rfl rfl rfl rfl rfl (by kernel_rfl) Tryz.func14 (by kernel_rfl)
    (of_decide_eq_true (by kernel_rfl)) (by unfold Func.isWrapper; first | (rw [if_pos (by decide +kernel)]; kernel_rfl) | (rw [if_neg (by decide +kernel)]; exact ⟨rfl, rfl⟩))
    (fun os started H enc _ => lifted os started H enc)

theorem gasStops_holds : Rows.GasStopsCardSaid :=
  Claim7.holds_tied_plain_at .later [] [.data, .data, .data] true (true, "7950fa0371113510b48b1005210e74e0fffa460a27dcdf5d658d223fe2172657") true
    row_holds (fun _ h => by cases h) (by kernel_rfl) (fun _ h => by cases h) gasStops_row_tie rfl ⟨rfl, rfl⟩ (by kernel_rfl) rfl
    (fun f fn hf hfn => by
      obtain rfl : f = 14 := Option.some.inj ((show Tryz.prog.funcNamed "bathyal/bathyallaw02.GasStops" = some 14 by kernel_rfl).symm.trans hf) |>.symm
      obtain rfl : fn = Tryz.f14 := (Option.some.inj (Tryz.func14.symm.trans hfn)).symm
      exact ⟨by kernel_rfl, fun j t ht => by
        rw [Tryz.params14] at ht
        have hm : t ∈ [50, 53, 54, 24] := by simpa using Array.mem_of_getElem? ht
        have hall : ([50, 53, 54, 24].all fun u => !Tryz.prog.wantsStandIn u) = true := by kernel_rfl
        exact (show Tryz.prog.wantsStandIn t = false by simpa using List.all_eq_true.1 hall t hm)⟩)
    (by kernel_rfl)
#print axioms gasStops_holds
end Go.Proofs.YtahochgbkhpefaaGreatDoor.gasStops
