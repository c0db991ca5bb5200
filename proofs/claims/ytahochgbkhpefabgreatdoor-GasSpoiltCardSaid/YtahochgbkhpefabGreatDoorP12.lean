/-
  Contracts of the specification's Table, Man and Dive, and of Surely and More, hold at every table, man and dive of moderate size.
-/
import Derived.Test.YtahochgbkhpefabGreatDoorP11
import Derived.Test.YtahochgbkhpefabGreatDoorP10
import Derived.Deep.RegionWith
import Derived.Test.YtahochgbkhpefabGreatDoorP6
import Derived.Test.YtahochgbkhpefabGreatDoorP9
namespace Go.Proofs
open Go.RowKit Gas
attribute [local go_sem ↓] Go.wp_at_zero Go.wp_at_succ

theorem in_c (n lo hi : Int) (w : World) : Calls Tryz.prog 86 #[.int .i64 n, .int .i64 lo, .int .i64 hi] w fun e w' => e = .returned (.bool (inB n lo hi)) ∧ w = w' := by
  unfold inB
  by_cases h1 : lo ≤ n
  · by_cases h2 : n ≤ hi
    · go_enter Tryz.func86, Tryz.ntmps86
      go_wp2
      go_ret
      simp [h1, h2]
    · go_enter Tryz.func86, Tryz.ntmps86
      go_wp2
      go_ret
      simp [h2]
  · have hd : decide (lo ≤ n) = false := by simpa using h1
    go_enter Tryz.func86, Tryz.ntmps86
    go_wp2
    go_ret
    simp

theorem fathoms_c (l h : Int) (w : World) : Calls Tryz.prog 21 #[.agg #[.int .i64 l, .int .i64 h]] w fun e w' => e = .returned (.bool (ordB l h 0 40 6)) ∧ Below w.heap.size w w' := by
  go_enter Tryz.func21, Tryz.ntmps21
  go_wp2_with (go_at_call 67; refine (Span_c _ _ _ _ _ (by omega) (by omega) _).mono ?_; rintro e w1 ⟨rfl, hb1⟩)
  go_ret
  exact ⟨rfl, nextB (newB (Below.refl _ _) _) hb1⟩
theorem time_c (l h : Int) (w : World) : Calls Tryz.prog 30 #[.agg #[.int .i64 l, .int .i64 h]] w fun e w' => e = .returned (.bool (ordB l h 0 120 6)) ∧ Below w.heap.size w w' := by
  go_enter Tryz.func30, Tryz.ntmps30
  go_wp2_with (go_at_call 67; refine (Span_c _ _ _ _ _ (by omega) (by omega) _).mono ?_; rintro e w1 ⟨rfl, hb1⟩)
  go_ret
  exact ⟨rfl, nextB (newB (Below.refl _ _) _) hb1⟩

set_option maxHeartbeats 1000000 in
theorem refMan_c (pA sA rA : Option Addr) (pn pc sn sc rn rc : Nat) (ps rs : List Pr) (hrn : rn ≤ 1000000) (hps : ps.length = pn) (w : World) (hs : SlOf prC 2 w rA rn rs) :
    Calls Tryz.prog 41 #[.agg #[.slice pA pn pc, .slice sA sn sc], .agg #[.slice rA rn rc]] w fun e w' =>
      e = .returned (.bool (manB ps rs)) ∧ Below w.heap.size w w' := by
  have HS := Lib.hid hs
  have HN := Lib.hid hs.1
  have HP := Lib.hid hps
  clear hs hps
  have B0 := Lib.hid (newB (newB (Below.refl w.heap.size w) (.cells #[.slice pA pn pc, .slice sA sn sc] 25)) (.cells #[.slice rA rn rc] 28))
  have P0 := Lib.hid ((Has.new w 25 #[.slice pA pn pc, .slice sA sn sc]).alloc (.cells #[.slice rA rn rc] 28))
  have M0 := Lib.hid (Has.new' (w.alloc (.cells #[.slice pA pn pc, .slice sA sn sc] 25)) 28 #[.slice rA rn rc] (g := w.heap.size + 1) (by simp))
  go_enter Tryz.func41, Tryz.ntmps41
  go_wp2
  go_loopw [5] (fun v wr => ∃ k : Nat, k ≤ rn ∧ v = .int .i64 k ∧ Below w.heap.size w wr ∧ Has wr w.heap.size 25 #[.slice pA pn pc, .slice sA sn sc] ∧ Has wr (w.heap.size + 1) 28 #[.slice rA rn rc] ∧ ∀ (j : Nat) x, j < k → rs[j]? = some x → rateB x = true) (fun v _ => rn - (intOf v).toNat)
  case atStart => exact ⟨0, by omega, rfl, B0.out, P0.out, M0.out, fun j x hj => absurd hj (by omega)⟩
  case round =>
    obtain ⟨k, hk, rfl, hB, hP, hM, hA⟩ := hrel
    have HB := Lib.hid hB; have HA := Lib.hid hA; have HPP := Lib.hid hP; have HM := Lib.hid hM
    have hz := hB.size; have cM := hM.cell; have cP := hP.cell
    clear hB hA hP hM
    by_cases hkn : k < rn
    · have hkl : k < rs.length := by rw [HN.out]; exact hkn
      obtain ⟨b, o, he⟩ := HS.out.addr (by omega)
      have hx := List.getElem?_eq_getElem hkl
      obtain ⟨x, hxx⟩ : ∃ x, x = rs[k] := ⟨_, rfl⟩
      rw [← hxx] at hx
      subst he
      have hR := Lib.hid ((HS.out.keep HB.out).range prC_len hx)
      have HX := Lib.hid hx
      obtain ⟨x0, x1⟩ := x
      replace hR := Lib.hid (show wr.rangeAt b (o + k * 2) [.int .i64 x0, .int .i64 x1] from hR.out)
      clear hx hxx
      cases ht : ordB x0 x1 1 400 12
      all_goals
        have T := Lib.hid ht
        clear ht
        go_wp2_with (first
          | (refine wpList_load_mid rfl 43 _ rfl b (o + k * 2) rfl _ _ hR.out Tryz.underlying43 rfl (by kernel_rfl) ?_)
          | (go_at_call 67; refine (Span_c _ _ _ _ _ (by omega) (by omega) _).mono ?_; rintro e w1 ⟨rfl, hb1⟩; rw [T.out]; have HB1 := Lib.hid (nextB HB.out hb1); have HP1 := Lib.hid (HPP.out.after hb1); have HM1 := Lib.hid (HM.out.after hb1); clear hb1))
      · exact bodyPost_ret (results_tmp rfl _ _ _) rfl ⟨by rw [manB, all_not HX.out (by simpa [rateB] using T.out)]; simp, HB1.out⟩
      · go_roundw
        case rel => exact ⟨k + 1, by omega, by go_num, HB1.out, HP1.out, HM1.out, all_next HA.out HX.out T.out⟩
        case measure => simp [intOf]; omega
    · by_cases hnp : rn = pn
      · subst hnp
        go_wp2
        exact bodyPost_ret (results_tmp rfl _ _ _) rfl ⟨by rw [manB, all_take HN.out HA.out (by omega), HN.out, HP.out]; simp, HB.out⟩
      · have hne : ((rn : Int) == (pn : Int)) = false := by rw [beq_eq_false_iff_ne]; omega
        go_wp2
        exact bodyPost_ret (results_tmp rfl _ _ _) rfl ⟨by rw [manB, HN.out, HP.out]; simp [hnp], HB.out⟩

set_option maxHeartbeats 1000000 in
theorem refDive_c (A : Option Addr) (n c : Nat) (dive : List St) (hn : n ≤ 1000000) (w : World) (hd : SlOf St.cs 4 w A n dive) :
    Calls Tryz.prog 26 #[.slice A n c] w fun e w' => e = .returned (.bool (diveB dive 0)) ∧ Below w.heap.size w w' := by
  have HS := Lib.hid hd
  have HN := Lib.hid hd.1
  clear hd
  go_enter Tryz.func26, Tryz.ntmps26
  go_wp2
  go_loopw [3] (fun v wr => ∃ k : Nat, k ≤ n ∧ v = .int .i64 k ∧ Below w.heap.size w wr ∧ ∀ (j : Nat) x, j < k → dive[j]? = some x → stageB x = true) (fun v _ => n - (intOf v).toNat)
  case atStart => exact ⟨0, by omega, rfl, Below.refl _ _, fun j x hj => absurd hj (by omega)⟩
  case round =>
    obtain ⟨k, hk, rfl, hB, hA⟩ := hrel
    have HB := Lib.hid hB; have HA := Lib.hid hA
    have hz := hB.size
    clear hB hA
    by_cases hkn : k < n
    · have hkl : k < dive.length := by rw [HN.out]; exact hkn
      obtain ⟨b, o, he⟩ := HS.out.addr (by omega)
      have hx := List.getElem?_eq_getElem hkl
      obtain ⟨x, hxx⟩ : ∃ x, x = dive[k] := ⟨_, rfl⟩
      rw [← hxx] at hx
      subst he
      have hR := Lib.hid ((HS.out.keep HB.out).range St.cs_len hx)
      have HX := Lib.hid hx
      obtain ⟨dl, dh, ml, mh⟩ := x
      replace hR := Lib.hid (show wr.rangeAt b (o + k * 4) [.int .i64 dl, .int .i64 dh, .int .i64 ml, .int .i64 mh] from hR.out)
      have hR1 := Lib.hid (show wr.rangeAt b (o + k * 4) [.int .i64 dl, .int .i64 dh] from fun j v hv => hR.out j v (by match j, hv with | 0, hv => exact hv | 1, hv => exact hv | j + 2, hv => simp at hv))
      have hR2 := Lib.hid (show ∀ w' : World, Below wr.heap.size wr w' → w'.rangeAt b (o + k * 4 + 2) [.int .i64 ml, .int .i64 mh] from fun w' hb j v hv => by
        have h1 := hR.out (2 + j) v (by match j, hv with | 0, hv => exact hv | 1, hv => exact hv | j + 2, hv => simp at hv)
        rw [Nat.add_assoc]
        rw [← h1]
        exact hb.cell (p := ⟨b, o + k * 4 + (2 + j), none⟩) (block_lt_of_cell h1))
      clear hx hxx
      cases ht : ordB dl dh 0 40 6
      · have T := Lib.hid ht
        clear ht
        go_wp2_with (first
          | (refine wpList_load_mid rfl 43 _ rfl b (o + k * 4) rfl _ _ hR1.out Tryz.underlying43 rfl (by kernel_rfl) ?_)
          | (go_at_call 21; refine (fathoms_c _ _ _).mono ?_; rintro e w1 ⟨rfl, hb1⟩; rw [T.out]; have HB1 := Lib.hid (nextB HB.out hb1); clear hb1))
        exact bodyPost_ret (results_tmp rfl _ _ _) rfl ⟨by rw [diveB, all_not HX.out (by simp [stageB, T.out])]; simp, HB1.out⟩
      · have T := Lib.hid ht
        cases hu : ordB ml mh 0 120 6
        all_goals
          have U := Lib.hid hu
          clear ht hu
          go_wp2_with (first
            | (refine wpList_load_mid rfl 43 _ rfl b (o + k * 4) rfl _ _ hR1.out Tryz.underlying43 rfl (by kernel_rfl) ?_)
            | (go_at_call 21; refine (fathoms_c _ _ _).mono ?_; rintro e w1 ⟨rfl, hb1⟩; rw [T.out]; have HB1 := Lib.hid (nextB HB.out hb1); have H2 := hR2.out _ hb1; have hc2 : w1.cell? ⟨b, o + k * 4 + 2, none⟩ = some (.int .i64 ml) := (by simpa using H2 0 _ rfl); have hc3 : w1.cell? ⟨b, o + k * 4 + 2 + 1, none⟩ = some (.int .i64 mh) := H2 1 _ rfl; clear H2 hb1)
            | (go_at_call 30; refine (time_c _ _ _).mono ?_; rintro e w2 ⟨rfl, hb1⟩; rw [U.out]; have HB2 := Lib.hid (nextB HB1.out hb1); clear hb1))
        · exact bodyPost_ret (results_tmp rfl _ _ _) rfl ⟨by rw [diveB, all_not HX.out (by simp [stageB, T.out, U.out])]; simp, HB2.out⟩
        · go_roundw
          case rel => exact ⟨k + 1, by omega, by go_num, HB2.out, all_next HA.out HX.out (by simp [stageB, T.out, U.out])⟩
          case measure => simp [intOf]; omega
    · by_cases h4 : n ≤ 4
      · go_wp2
        exact bodyPost_ret (results_tmp rfl _ _ _) rfl ⟨by rw [diveB, all_take HN.out HA.out (by omega), HN.out]; simp, HB.out⟩
      · have hne : decide ((n : Int) ≤ 4) = false := by simp; omega
        go_wp2
        exact bodyPost_ret (results_tmp rfl _ _ _) rfl ⟨by rw [diveB, HN.out]; simp; omega, HB.out⟩
end Go.Proofs
namespace Go.Proofs
open Go.RowKit Gas
attribute [local go_sem ↓] Go.wp_at_zero Go.wp_at_succ

theorem ccell {w w' : World} {p : Addr} {v : Value} (hb : Below w.heap.size w w') (h : w.cell? p = some v) : w'.cell? p = some v := by rw [← h]; exact hb.cell (block_lt_of_cell h)
theorem lastI_succ (a : Int) (xs : List Int) (k : Nat) (h : k < xs.length) : lastI a xs (k + 1) = xs[k] := by simp [lastI, h]

set_option maxHeartbeats 2000000 in
theorem refTable_c (pA sA : Option Addr) (pn pc sn sc : Nat) (ps : List Pr) (ss : List Int) (hpn : pn ≤ 1000000) (hsn : sn ≤ 1000000) (w : World) (hp : SlOf prC 2 w pA pn ps) (hs : SlOf inC 1 w sA sn ss) :
    Calls Tryz.prog 40 #[.agg #[.slice pA pn pc, .slice sA sn sc]] w fun e w' => e = .returned (.bool (tableB ps ss)) ∧ Below w.heap.size w w' := by
  have HP := Lib.hid hp; have HS := Lib.hid hs
  have HPN := Lib.hid hp.1; have HSN := Lib.hid hs.1
  clear hp hs
  have B0 := Lib.hid (newB (Below.refl w.heap.size w) (.cells #[.slice pA pn pc, .slice sA sn sc] 25))
  have P0 := Lib.hid (Has.new w 25 #[.slice pA pn pc, .slice sA sn sc])
  go_enter Tryz.func40, Tryz.ntmps40
  go_wp2
  go_loopw [3] (fun v wr => ∃ k : Nat, k ≤ pn ∧ v = .int .i64 k ∧ Below w.heap.size w wr ∧ Has wr w.heap.size 25 #[.slice pA pn pc, .slice sA sn sc] ∧ ∀ (j : Nat) x, j < k → ps[j]? = some x → partB x = true) (fun v _ => pn - (intOf v).toNat)
  case atStart => exact ⟨0, by omega, rfl, B0.out, P0.out, fun j x hj => absurd hj (by omega)⟩
  case round =>
    obtain ⟨k, hk, rfl, hB, hT, hA⟩ := hrel
    have HB := Lib.hid hB; have HA := Lib.hid hA; have HT := Lib.hid hT
    have hz := hB.size; have hcell := hT.cell
    clear hB hA hT
    by_cases hkn : k < pn
    · have hkl : k < ps.length := by rw [HPN.out]; exact hkn
      obtain ⟨b, o, he⟩ := HP.out.addr (by omega)
      have hx := List.getElem?_eq_getElem hkl
      obtain ⟨x, hxx⟩ : ∃ x, x = ps[k] := ⟨_, rfl⟩
      rw [← hxx] at hx
      subst he
      have hr := (HP.out.keep HB.out).range prC_len hx
      have HX := Lib.hid hx
      obtain ⟨x0, x1⟩ := x
      have hc0 : wr.cell? ⟨b, o + k * 2, none⟩ = some (.int .i64 x0) := by simpa using hr 0 _ rfl
      have hc1 : wr.cell? ⟨b, o + k * 2 + 1, none⟩ = some (.int .i64 x1) := by simpa using hr 1 _ rfl
      clear hx hxx hr
      cases ht : inB x0 0 20000
      · have T := Lib.hid ht
        clear ht
        go_wp2_with (go_at_call 86; refine (in_c _ _ _ _).mono ?_; rintro e w1 ⟨rfl, rfl⟩; rw [T.out])
        exact bodyPost_ret (results_tmp rfl _ _ _) rfl ⟨by rw [tableB, all_not HX.out (by simp [partB, T.out])]; simp, HB.out⟩
      · have T := Lib.hid ht
        clear ht
        cases hu : inB x1 0 400
        all_goals
          have U := Lib.hid hu
          clear hu
          go_wp2_with (go_at_call 86; refine (in_c _ _ _ _).mono ?_; rintro e w1 ⟨rfl, rfl⟩; first | rw [T.out] | rw [U.out])
        · exact bodyPost_ret (results_tmp rfl _ _ _) rfl ⟨by rw [tableB, all_not HX.out (by simp [partB, U.out])]; simp, HB.out⟩
        · go_roundw
          case rel => exact ⟨k + 1, by omega, by go_num, HB.out, HT.out, all_next HA.out HX.out (by simp [partB, T.out, U.out])⟩
          case measure => simp [intOf]; omega
    · have HALL := Lib.hid (all_take HPN.out HA.out (by omega))
      obtain ⟨wo, rfl⟩ : ∃ wo : World, wo = wr := ⟨_, rfl⟩
      go_wp2
      go_loopw [4] (fun v wr => ∃ k : Nat, k ≤ sn ∧ v = .int .i64 k ∧ Below w.heap.size w wr ∧ Has wr w.heap.size 25 #[.slice pA pn pc, .slice sA sn sc] ∧ (0 ≤ lastI 0 ss k ∧ lastI 0 ss k ≤ 40) ∧ incB 0 ss = incB (lastI 0 ss k) (ss.drop k)) (fun v _ => sn - (intOf v).toNat)
      case atStart => exact ⟨0, by omega, rfl, HB.out, HT.out, by simp [lastI], by simp [lastI]⟩
      case round =>
        obtain ⟨m, hm, rfl, hB2, hT2, hl, hA2⟩ := hrel
        have HB2 := Lib.hid hB2; have HA2 := Lib.hid hA2; have HL := Lib.hid hl; have HT2 := Lib.hid hT2
        have hz2 := hB2.size; have hcell2 := hT2.cell
        clear hB2 hA2 hT2 hcell
        by_cases hmn : m < sn
        · have hml : m < ss.length := by rw [HSN.out]; exact hmn
          obtain ⟨b, o, he⟩ := HS.out.addr (by omega)
          have hx := List.getElem?_eq_getElem hml
          have HD := Lib.hid (incB_drop 0 ss m hml)
          have HN1 := Lib.hid (lastI_succ 0 ss m hml)
          obtain ⟨x, hxx⟩ : ∃ x, x = ss[m] := ⟨_, rfl⟩
          rw [← hxx] at hx HD HN1
          subst he
          have hr := (HS.out.keep HB2.out).range inC_len hx
          have hc : wr.cell? ⟨b, o + m, none⟩ = some (.int .i64 x) := by simpa using hr 0 _ rfl
          clear hr
          cases ht : inB x 1 40
          · have T := Lib.hid ht
            have N := Lib.hid (show inB x (lastI 0 ss m + 1) 40 = false by simp only [inB, decide_eq_false_iff_not] at ht ⊢; omega)
            have CC := Lib.hid hc
            clear ht hx hxx hc
            go_wp2
            go_goals
            refine wp_free 25 (by kernel_rfl) (by kernel_rfl) (by kernel_rfl) (by decide) ?_
            intro K hK
            iterate 5 (apply Obl.val (by decide) (by kernel_rfl); (intro w' hb; have := (HT2.out.after hb).cell; have := ccell hb CC.out; go_simp; rfl))
            (apply Obl.call (f := 86) (by decide) (by kernel_rfl); (intro w' hb; go_simp; exact rfl); (intro w' hb; exact same_calls (in_c _ _ _ w'))); rw [T.out]
            iterate 2 (apply Obl.val (by decide) (by kernel_rfl); (intro w' hb; have := (HT2.out.after hb).cell; have := ccell hb CC.out; go_simp; rfl))
            iterate 16 (apply Obl.skip (by decide) (by kernel_rfl))
            (apply Obl.val (by decide) (by kernel_rfl); (intro w' hb; have := (HT2.out.after hb).cell; have := ccell hb CC.out; go_simp; rfl))
            apply Obl.nil
            apply hK
            intro w2 hb
            simp only [Act.put, List.setIfInBounds_toArray, List.set_cons_zero, List.set_cons_succ, List.drop_succ_cons, List.drop_zero]
            clear hK K
            have HB3 := Lib.hid (nextB HB2.out hb); have HT3 := Lib.hid (HT2.out.after hb)
            clear hb hcell2
            go_wp2
            exact bodyPost_ret (results_tmp rfl _ _ _) rfl ⟨by rw [tableB, HA2.out, HD.out, N.out]; simp, HB3.out⟩
          · have T := Lib.hid ht
            by_cases h0 : m = 0
            · have hd0 : ¬ 0 < m := by omega
              have N := Lib.hid (show inB x (lastI 0 ss m + 1) 40 = true by subst h0; simp only [inB, decide_eq_true_eq, show lastI 0 ss 0 = 0 from rfl] at ht ⊢; omega)
              have CC := Lib.hid hc
              clear hx hxx hc h0
              go_wp2
              refine wp_free 25 (by kernel_rfl) (by kernel_rfl) (by kernel_rfl) (by decide) ?_
              intro K hK
              iterate 5 (apply Obl.val (by decide) (by kernel_rfl); (intro w' hb; have := (HT2.out.after hb).cell; have := ccell hb CC.out; go_simp; rfl))
              (apply Obl.call (f := 86) (by decide) (by kernel_rfl); (intro w' hb; go_simp; exact rfl); (intro w' hb; exact same_calls (in_c _ _ _ w'))); rw [T.out]
              iterate 5 (apply Obl.val (by decide) (by kernel_rfl); (intro w' hb; have := (HT2.out.after hb).cell; have := ccell hb CC.out; go_simp; rfl))
              iterate 12 (apply Obl.skip (by decide) (by kernel_rfl))
              iterate 2 (apply Obl.val (by decide) (by kernel_rfl); (intro w' hb; have := (HT2.out.after hb).cell; have := ccell hb CC.out; go_simp; rfl))
              apply Obl.nil
              apply hK
              intro w2 hb
              simp only [Act.put, List.setIfInBounds_toArray, List.set_cons_zero, List.set_cons_succ, List.drop_succ_cons, List.drop_zero]
              clear hK K
              have HB3 := Lib.hid (nextB HB2.out hb); have HT3 := Lib.hid (HT2.out.after hb)
              clear hb hcell2
              go_wp2
              go_roundw
              case rel => exact ⟨m + 1, by omega, by go_num, HB3.out, HT3.out, by rw [HN1.out]; have := T.out; simp only [inB, decide_eq_true_eq] at this; omega, by rw [HA2.out, HD.out, N.out, HN1.out]; simp⟩
              case measure => simp [intOf]; omega
            · obtain ⟨m, rfl⟩ : ∃ n, m = n + 1 := ⟨m - 1, by omega⟩
              have hml2 : m < ss.length := by omega
              have hy := List.getElem?_eq_getElem hml2
              have HL1 := Lib.hid (lastI_succ 0 ss m hml2)
              obtain ⟨y, hyy⟩ : ∃ y, y = ss[m] := ⟨_, rfl⟩
              rw [← hyy] at hy HL1
              have CC := Lib.hid hc
              have C2 := Lib.hid (show wr.cell? ⟨b, o + m, none⟩ = some (.int .i64 y) by simpa using (HS.out.keep HB2.out).range inC_len hy 0 _ rfl)
              have TT := ht
              have hwm : IntKind.i64.wrap (m : Int) = m := by rw [IntKind.wrap_i64]; omega
              have hms : m < sn := by omega
              simp only [inB, decide_eq_true_eq] at TT
              by_cases hlt : x ≤ y
              · have N := Lib.hid (show inB x (lastI 0 ss (m + 1) + 1) 40 = false by rw [HL1.out]; simp only [inB, decide_eq_false_iff_not]; omega)
                clear hx hxx hy hyy h0 ht hc
                go_wp2
                refine wp_free 25 (by kernel_rfl) (by kernel_rfl) (by kernel_rfl) (by decide) ?_
                intro K hK
                iterate 5 (apply Obl.val (by decide) (by kernel_rfl); (intro w' hb; have := (HT2.out.after hb).cell; have := ccell hb CC.out; have := ccell hb C2.out; go_simp; rfl))
                (apply Obl.call (f := 86) (by decide) (by kernel_rfl); (intro w' hb; go_simp; exact rfl); (intro w' hb; exact same_calls (in_c _ _ _ w'))); rw [T.out]
                iterate 19 (apply Obl.val (by decide) (by kernel_rfl); (intro w' hb; have := (HT2.out.after hb).cell; have := ccell hb CC.out; have := ccell hb C2.out; go_simp; rfl))
                apply Obl.nil
                apply hK
                intro w2 hb
                simp only [Act.put, List.setIfInBounds_toArray, List.set_cons_zero, List.set_cons_succ, List.drop_succ_cons, List.drop_zero]
                clear hK K
                have HB3 := Lib.hid (nextB HB2.out hb); have HT3 := Lib.hid (HT2.out.after hb)
                clear hb hcell2
                go_wp2
                exact bodyPost_ret (results_tmp rfl _ _ _) rfl ⟨by rw [tableB, HA2.out, HD.out, N.out]; simp, HB3.out⟩
              · have N := Lib.hid (show inB x (lastI 0 ss (m + 1) + 1) 40 = true by rw [HL1.out]; simp only [inB, decide_eq_true_eq]; omega)
                clear hx hxx hy hyy h0 ht hc
                go_wp2
                refine wp_free 25 (by kernel_rfl) (by kernel_rfl) (by kernel_rfl) (by decide) ?_
                intro K hK
                iterate 5 (apply Obl.val (by decide) (by kernel_rfl); (intro w' hb; have := (HT2.out.after hb).cell; have := ccell hb CC.out; have := ccell hb C2.out; go_simp; rfl))
                (apply Obl.call (f := 86) (by decide) (by kernel_rfl); (intro w' hb; go_simp; exact rfl); (intro w' hb; exact same_calls (in_c _ _ _ w'))); rw [T.out]
                iterate 19 (apply Obl.val (by decide) (by kernel_rfl); (intro w' hb; have := (HT2.out.after hb).cell; have := ccell hb CC.out; have := ccell hb C2.out; go_simp; rfl))
                apply Obl.nil
                apply hK
                intro w2 hb
                simp only [Act.put, List.setIfInBounds_toArray, List.set_cons_zero, List.set_cons_succ, List.drop_succ_cons, List.drop_zero]
                clear hK K
                have HB3 := Lib.hid (nextB HB2.out hb); have HT3 := Lib.hid (HT2.out.after hb)
                clear hb hcell2
                go_wp2
                go_roundw
                case rel => exact ⟨m + 1 + 1, by omega, by go_num, HB3.out, HT3.out, by rw [HN1.out]; omega, by rw [HA2.out, HD.out, N.out, HN1.out]; simp⟩
                case measure => simp [intOf]; omega
        · have hinc : incB 0 ss = true := by rw [HA2.out, List.drop_eq_nil_of_le (by have := HSN.out; omega)]; rfl
          have HI := Lib.hid hinc
          clear hinc
          cases hq : inB (pn : Int) 1 3
          all_goals
            have Q := Lib.hid hq
            clear hq
          · go_wp2_with (go_at_call 86; refine (in_c _ _ _ _).mono ?_; rintro e w1 ⟨rfl, rfl⟩; rw [Q.out])
            exact bodyPost_ret (results_tmp rfl _ _ _) rfl ⟨by rw [tableB, HPN.out, Q.out]; simp, HB2.out⟩
          · by_cases h4 : sn ≤ 4
            · go_wp2_with (go_at_call 86; refine (in_c _ _ _ _).mono ?_; rintro e w1 ⟨rfl, rfl⟩; rw [Q.out])
              exact bodyPost_ret (results_tmp rfl _ _ _) rfl ⟨by rw [tableB, HPN.out, HSN.out, Q.out, HALL.out, HI.out]; simp; omega, HB2.out⟩
            · have hne : decide ((sn : Int) ≤ 4) = false := by simp; omega
              go_wp2_with (go_at_call 86; refine (in_c _ _ _ _).mono ?_; rintro e w1 ⟨rfl, rfl⟩; rw [Q.out])
              exact bodyPost_ret (results_tmp rfl _ _ _) rfl ⟨by rw [tableB, HPN.out, HSN.out, Q.out]; simp [h4], HB2.out⟩
end Go.Proofs
namespace Go.Proofs
open Go.RowKit Go.Shelf Gas
attribute [local go_sem ↓] Go.wp_at_zero Go.wp_at_succ

def shortB (t : Tm) (n : Nat) : Bool := decide (t.pn ≤ 6 ∧ t.sn ≤ 7 ∧ t.rn ≤ 6 ∧ n ≤ 7)
theorem short_small {t : Tm} {n : Nat} (h : shortB t n = true) : t.Small ∧ n ≤ 7 := by
  simp only [shortB, decide_eq_true_eq] at h
  exact ⟨⟨by omega, by omega, by omega⟩, h.2.2.2⟩

set_option maxHeartbeats 1000000 in
theorem short_c (t : Tm) (A : Option Addr) (n c : Nat) (w : World) : Calls Tryz.prog 13 #[t.tab, t.man, .slice A n c] w fun e w' => e = .returned (.bool (shortB t n)) ∧ Below w.heap.size w w' := by
  obtain ⟨pA, sA, rA, pn, pc, sn, sc, rn, rc, ps, ss, rs⟩ := t
  simp only [Tm.tab, Tm.man]
  have B0 := Lib.hid (newB (newB (Below.refl w.heap.size w) (.cells #[.slice pA pn pc, .slice sA sn sc] 25)) (.cells #[.slice rA rn rc] 28))
  by_cases h1 : pn ≤ 6
  · by_cases h2 : sn ≤ 7
    · by_cases h3 : rn ≤ 6
      · by_cases h4 : n ≤ 7
        · have E := Lib.hid (show shortB ⟨pA, sA, rA, pn, pc, sn, sc, rn, rc, ps, ss, rs⟩ n = true by simp [shortB, h1, h2, h3, h4])
          go_enter Tryz.func13, Tryz.ntmps13
          go_wp2
          exact bodyPost_ret (results_tmp rfl _ _ _) rfl ⟨by rw [E.out]; simp; omega, B0.out⟩
        · have E := Lib.hid (show shortB ⟨pA, sA, rA, pn, pc, sn, sc, rn, rc, ps, ss, rs⟩ n = false by simp [shortB, h4])
          go_enter Tryz.func13, Tryz.ntmps13
          go_wp2
          exact bodyPost_ret (results_tmp rfl _ _ _) rfl ⟨by rw [E.out]; simp; omega, B0.out⟩
      · have E := Lib.hid (show shortB ⟨pA, sA, rA, pn, pc, sn, sc, rn, rc, ps, ss, rs⟩ n = false by simp [shortB, h3])
        go_enter Tryz.func13, Tryz.ntmps13
        go_wp2
        exact bodyPost_ret (results_tmp rfl _ _ _) rfl ⟨by rw [E.out]; rfl, B0.out⟩
    · have E := Lib.hid (show shortB ⟨pA, sA, rA, pn, pc, sn, sc, rn, rc, ps, ss, rs⟩ n = false by simp [shortB, h2])
      go_enter Tryz.func13, Tryz.ntmps13
      go_wp2
      exact bodyPost_ret (results_tmp rfl _ _ _) rfl ⟨by rw [E.out]; rfl, B0.out⟩
  · have E := Lib.hid (show shortB ⟨pA, sA, rA, pn, pc, sn, sc, rn, rc, ps, ss, rs⟩ n = false by simp [shortB, h1])
    go_enter Tryz.func13, Tryz.ntmps13
    go_wp2
    exact bodyPost_ret (results_tmp rfl _ _ _) rfl ⟨by rw [E.out]; rfl, B0.out⟩

set_option maxHeartbeats 1000000 in
theorem fine_c (t : Tm) (ht : t.Small) (A : Option Addr) (n c : Nat) (dive : List St) (hn : n ≤ 1000000) (w : World) (hi : t.In w) (hd : SlOf St.cs 4 w A n dive) :
    Calls Tryz.prog 14 #[t.tab, t.man, .slice A n c] w fun e w' => e = .returned (.bool (definedB t.ps t.ss t.rs dive 0)) ∧ Below w.heap.size w w' := by
  obtain ⟨pA, sA, rA, pn, pc, sn, sc, rn, rc, ps, ss, rs⟩ := t
  obtain ⟨hP, hS, hR⟩ := hi
  obtain ⟨s1, s2, s3⟩ := ht
  simp only [Tm.tab, Tm.man] at *
  have h31 := Lib.hid fun (w1 : World) (h : Below w.heap.size w w1) => refTable_c pA sA pn pc sn sc ps ss (by omega) (by omega) w1 (hP.keep h) (hS.keep h)
  have h81 := Lib.hid fun (w1 : World) (h : Below w.heap.size w w1) => refMan_c pA sA rA pn pc sn sc rn rc ps rs (by omega) hP.1 w1 (hR.keep h)
  have h82 := Lib.hid fun (w1 : World) (h : Below w.heap.size w w1) => refDive_c A n c dive hn w1 (hd.keep h)
  clear hP hS hR hd
  have B0 := Lib.hid (newB (newB (Below.refl w.heap.size w) (.cells #[.slice pA pn pc, .slice sA sn sc] 25)) (.cells #[.slice rA rn rc] 28))
  have P0 := Lib.hid ((Has.new w 25 #[.slice pA pn pc, .slice sA sn sc]).alloc (.cells #[.slice rA rn rc] 28))
  have M0 := Lib.hid (Has.new' (w.alloc (.cells #[.slice pA pn pc, .slice sA sn sc] 25)) 28 #[.slice rA rn rc] (g := w.heap.size + 1) (by simp))
  cases t1 : tableB ps ss
  · have HE := Lib.hid (show definedB ps ss rs dive 0 = false by simp [definedB, t1])
    have T1 := Lib.hid t1
    clear t1
    go_enter Tryz.func14, Tryz.ntmps14
    go_wp2_with (first
      | (go_at_call 40; refine (h31.out _ B0.out).mono ?_; rintro e w1 ⟨rfl, hb1⟩; rw [T1.out]; have HB1 := Lib.hid (nextB B0.out hb1); clear hb1))
    exact bodyPost_ret (results_tmp rfl _ _ _) rfl ⟨by rw [HE.out]; rfl, HB1.out⟩
  · have T1 := Lib.hid t1
    cases t2 : manB ps rs
    · have HE := Lib.hid (show definedB ps ss rs dive 0 = false by rw [definedB, t2]; simp)
      have T2 := Lib.hid t2
      clear t1 t2
      go_enter Tryz.func14, Tryz.ntmps14
      go_wp2_with (first
        | (go_at_call 40; refine (h31.out _ B0.out).mono ?_; rintro e w1 ⟨rfl, hb1⟩; rw [T1.out]; have HB1 := Lib.hid (nextB B0.out hb1); have cP := (P0.out.after hb1).cell; have cM := (M0.out.after hb1).cell; clear hb1)
        | (go_at_call 41; refine (h81.out _ HB1.out).mono ?_; rintro e w2 ⟨rfl, hb2⟩; rw [T2.out]; have HB2 := Lib.hid (nextB HB1.out hb2); clear hb2))
      exact bodyPost_ret (results_tmp rfl _ _ _) rfl ⟨by rw [HE.out]; rfl, HB2.out⟩
    · have HE := Lib.hid (show definedB ps ss rs dive 0 = diveB dive 0 by rw [definedB, t2, t1]; simp)
      have T2 := Lib.hid t2
      clear t1 t2
      go_enter Tryz.func14, Tryz.ntmps14
      go_wp2_with (first
        | (go_at_call 40; refine (h31.out _ B0.out).mono ?_; rintro e w1 ⟨rfl, hb1⟩; rw [T1.out]; have HB1 := Lib.hid (nextB B0.out hb1); have cP := (P0.out.after hb1).cell; have cM := (M0.out.after hb1).cell; clear hb1)
        | (go_at_call 41; refine (h81.out _ HB1.out).mono ?_; rintro e w2 ⟨rfl, hb2⟩; rw [T2.out]; have HB2 := Lib.hid (nextB HB1.out hb2); clear hb2)
        | (go_at_call 26; refine (h82.out _ HB2.out).mono ?_; rintro e w3 ⟨rfl, hb3⟩; have HB3 := Lib.hid (nextB HB2.out hb3); clear hb3))
      exact bodyPost_ret (results_tmp rfl _ _ _) rfl ⟨by rw [HE.out]; rfl, HB3.out⟩

/-- Whether a dive surely keeps the limits, and the error. -/
def keptF (t : Tm) (a : FS) (dive : List St) : Bool := enterB t.ps t.rs (folS t.ps t.rs a dive).1 0 (folS t.ps t.rs a dive).2
def sureF (t : Tm) (dive : List St) : Bool × Int := if definedB t.ps t.ss t.rs dive 0 then (keptF t (h0, true) dive, 0) else (false, 2)

set_option maxHeartbeats 4000000 in
theorem Surely_c (t : Tm) (ht : t.Small) (A : Option Addr) (n c : Nat) (dive : List St) (hn : n ≤ 100000) (w : World) (hi : t.In w) (hd : SlOf St.cs 4 w A n dive) :
    Calls Tryz.prog 17 #[t.tab, t.man, .slice A n c] w fun e w' => e = .returned (.tuple #[.bool (sureF t dive).1, .int .i64 (sureF t dive).2]) ∧ Below w.heap.size w w' := by
  have HD := Lib.hid fun (w' : World) (hb : Below w.heap.size w w') => defined_c t ht A n c dive 0 (by omega) (by omega) w' (hi.keep hb) (hd.keep hb)
  have HOK := Lib.hid fun h => defined_ok ht hi (dive := dive) (room := 0) h
  have B0 := Lib.hid (newB (newB (Below.refl w.heap.size w) (.cells #[.slice t.pA t.pn t.pc, .slice t.sA t.sn t.sc] 25)) (.cells #[.slice t.rA t.rn t.rc] 28))
  have T0 := Lib.hid ((Has.new w 25 #[.slice t.pA t.pn t.pc, .slice t.sA t.sn t.sc]).alloc (.cells #[.slice t.rA t.rn t.rc] 28))
  have M0 := Lib.hid (Has.new' (w.alloc (.cells #[.slice t.pA t.pn t.pc, .slice t.sA t.sn t.sc] 25)) 28 #[.slice t.rA t.rn t.rc] (g := w.heap.size + 1) (by simp))
  cases hdb : definedB t.ps t.ss t.rs dive 0
  · have HE := Lib.hid (show sureF t dive = (false, 2) by simp [sureF, hdb])
    rw [hdb] at HD
    rw [HE.out]
    clear hi hd HOK hdb
    obtain ⟨pA, sA, rA, pn, pc, sn, sc, rn, rc, ps, ss, rs⟩ := t
    simp only [Tm.tab, Tm.man] at *
    go_enter Tryz.func17, Tryz.ntmps17
    go_wp2_with (go_at_call 56; refine (HD.out _ B0.out).mono ?_; rintro e w1 ⟨rfl, hb1⟩; have HB1 := Lib.hid (nextB B0.out hb1); clear hb1)
    exact bodyPost_ret (results_tmp2 rfl _ _ _) rfl ⟨rfl, HB1.out⟩
  · rw [hdb] at HD
    have HE := Lib.hid (show sureF t dive = (keptF t (h0, true) dive, 0) by simp [sureF, hdb])
    rw [HE.out]
    obtain ⟨hok, hds, _⟩ := HOK.out hdb
    have HBg := Lib.hid fun (w' : World) (hb : Below w.heap.size w w') => begin_c t hok w' (hi.keep hb)
    have HFo := Lib.hid fun (w' : World) (hb : Below w.heap.size w w') (b' : Nat) (hm' : MapAt w' b' (heldF t.rs h0)) => follow_c t h0 (h0_ok hok) b' true A n c dive (by omega) hds w' (hi.keep hb) hm' (hd.keep hb)
    have HSa := Lib.hid fun (w' : World) (hb : Below w.heap.size w w') (b' : Nat) (hm' : MapAt w' b' (heldF t.rs (folS t.ps t.rs (h0, true) dive).1)) => safe_c t _ (FolOk.folS dive (h0, true) (h0_ok hok) hds) b' (folS t.ps t.rs (h0, true) dive).2 w' (hi.keep hb) hm'
    unfold keptF
    generalize folS t.ps t.rs (h0, true) dive = FA at *
    clear hi hd HOK hdb hok hds
    obtain ⟨pA, sA, rA, pn, pc, sn, sc, rn, rc, ps, ss, rs⟩ := t
    have HFV := Lib.hid (show ∀ b k, FolV ⟨pA, sA, rA, pn, pc, sn, sc, rn, rc, ps, ss, rs⟩ b k = .agg #[.slice pA pn pc, .slice sA sn sc, .slice rA rn rc, .map (some b), .bool k] from fun _ _ => rfl)
    simp only [Tm.tab, Tm.man] at *
    go_enter Tryz.func17, Tryz.ntmps17
    go_wp2_with (first
      | (go_at_call 56; refine (HD.out _ B0.out).mono ?_; rintro e w1 ⟨rfl, hb1⟩; have HB1 := Lib.hid (nextB B0.out hb1); have ct := (T0.out.after hb1).cell; have cm := (M0.out.after hb1).cell; clear hb1)
      | (go_at_call 57; refine (HBg.out _ HB1.out).mono ?_; rintro e w3 ⟨bm, rfl, hM, hb3⟩; have HB3 := Lib.hid (nextB HB1.out hb3); have HM := Lib.hid hM; clear hM hb3)
      | (go_at_call 58; refine (HFo.out _ HB3.out bm HM.out).mono ?_; rintro e w4 ⟨b2, rfl, hM, hb4⟩; have HB4 := Lib.hid (nextB HB3.out hb4); have HM4 := Lib.hid hM; clear hM hb4)
      | (go_at_call 60; refine (HSa.out _ HB4.out b2 HM4.out).mono ?_; rintro e w5 ⟨rfl, hb5⟩; have HB5 := Lib.hid (nextB HB4.out hb5); clear hb5))
    exact bodyPost_ret (results_tmp2 rfl _ _ _) rfl ⟨rfl, HB5.out⟩
end Go.Proofs
namespace Go.Proofs
open Go.RowKit Go.Shelf Gas
attribute [local go_sem ↓] Go.wp_at_zero Go.wp_at_succ

theorem wp_app54 {o : Oper} {a : Act} {w : World} {K : Act → World → Prop} {Q : Exit → Act → World → Prop} (s x : Operand)
    (ho : o.op = .call { callee := .builtin .append, args := #[s, x], argTypes := #[29, 29] })
    (base : Nat) (v : Value) (n : Nat) (ys : List St) (hs : a.eval s = v) (hown : w.ownsRow base 80 4 v n (flat St.cs ys))
    (A : Option Addr) (m c : Nat) (xs : List St) (hx : a.eval x = .slice A m c) (hA : A = none → c = 0) (hsl : SlOf St.cs 4 w A m xs) (hb : n + m ≤ 4000000) (hbase : base ≤ w.heap.size)
    (h : ∀ v' w', w'.ownsRow base 80 4 v' (n + m) (flat St.cs (ys ++ xs)) → Below base w w' → K (a.put o.dst v') w') : o.wp Tryz.prog a w K Q := by
  obtain ⟨i, hi, hz, hby, hsz⟩ := info128
  have hm := hsl.1
  rcases A with _ | ad
  · have hm0 : m = 0 := by
      rcases Nat.eq_zero_or_pos m with h0 | h0
      · exact h0
      · obtain ⟨_, _, e⟩ := hsl.addr h0; cases e
    subst hm0
    have := hA rfl
    subst this
    have hx0 : xs = [] := List.eq_nil_of_length_eq_zero hm
    subst hx0
    have hrun := run_append_owned_none (P := Tryz.prog) (w := w) base 29 o.type 80 i 4 (by kernel_rfl) hi v n _ hown
    unfold Oper.wp
    simp [execOp, ho, resolve, invoke, builtin, hs, hx, hrun, Result.andThen]
    exact h v w (by rw [List.append_nil]; exact hown) (Below.refl _ _)
  · refine wp_append_own w s x 29 ho base 80 i _ 4 32 (by kernel_rfl) hi hz hsz hby rfl (by omega) v n _ hs hown ad m c (flat St.cs xs) hx (by rw [flat_len St.cs_len, hm]) ?_ (flat_one cs_one xs) (by unfold maxLen; omega) (by omega) hbase
      (fun v' w' h1 h2 _ => h v' w' (by rw [flat_append]; exact h1) (below_grown h2 (fun r hr => (hown.lt r hr).1) hbase))
    intro j u hu
    have hl := flat_len St.cs_len xs
    have hj := (List.getElem?_eq_some_iff.1 hu).1
    obtain ⟨b, o', e, hc⟩ := hsl.2.2 (by omega)
    cases e
    have := hc j u hu
    have hadd : (⟨b, o', none⟩ : Addr).add j = ⟨b, o' + j, none⟩ := by unfold Addr.add; split <;> simp_all
    rw [hadd]; exact this

theorem owns_base {b b' size n : Nat} {e : TypeId} {v : Value} {xs : List Value} {w : World} (hb : b ≤ b') (h : w.ownsRow b' e size v n xs) : w.ownsRow b e size v n xs := by
  refine ⟨h.1, ?_⟩
  rcases h.2 with h | ⟨g, cap, cur, h1, h2, h3⟩
  · exact .inl h
  · exact .inr ⟨g, cap, cur, h1, Nat.le_trans hb h2, h3⟩
def OwnsV (base n : Nat) (xs : List St) (v : Value) (w : World) : Prop := w.ownsRow base 80 4 v n (flat St.cs xs)
theorem OwnsV.stable {base n : Nat} {xs : List St} : ∀ v w w', OwnsV base n xs v w → Below w.heap.size w w' → OwnsV base n xs v w' := fun _ _ _ h hb => owns_keep h hb

set_option maxHeartbeats 4000000 in
set_option maxRecDepth 50000 in
theorem more_o (A : Option Addr) (n c : Nat) (dive : List St) (hA : A = none → c = 0) (hn : n ≤ 1000) (p0 p1 q0 q1 : Int) (w : World) (hd : SlOf St.cs 4 w A n dive) :
    Calls Tryz.prog 23 #[.slice A n c, .agg #[.int .i64 p0, .int .i64 p1], .agg #[.int .i64 q0, .int .i64 q1]] w (OwnsSt w (n + 1) (dive ++ [⟨p0, p1, q0, q1⟩])) := by
  have HD := Lib.hid hd; have HA := Lib.hid hA
  clear hd hA
  have P0 := Lib.hid ((Has.new w 43 #[.int .i64 p0, .int .i64 p1]).alloc (.cells #[.int .i64 q0, .int .i64 q1] 43))
  have Q0 := Lib.hid (Has.new' (w.alloc (.cells #[.int .i64 p0, .int .i64 p1] 43)) 43 #[.int .i64 q0, .int .i64 q1] (g := w.heap.size + 1) (by simp))
  have B0 := Lib.hid (newB (newB (Below.refl w.heap.size w) (.cells #[.int .i64 p0, .int .i64 p1] 43)) (.cells #[.int .i64 q0, .int .i64 q1] 43))
  go_enter Tryz.func23, Tryz.ntmps23
  go_wp2
  generalize (w.alloc (.cells #[.int .i64 p0, .int .i64 p1] 43)).alloc (.cells #[.int .i64 q0, .int .i64 q1] 43) = w1 at *
  apply wp_loose 6 (.v (.slice A n c) :: .r (OwnsV w.heap.size n dive) :: .v (.agg #[.int .i64 p0, .int .i64 p1]) :: .v (.agg #[.int .i64 q0, .int .i64 q1]) :: .v (.agg #[.int .i64 p0, .int .i64 p1, .int .i64 q0, .int .i64 q1]) :: .r (fun v w' => ∃ B, v = .slice (some ⟨B, 0, none⟩) 1 1 ∧ Has w' B 80 #[.int .i64 p0, .int .i64 p1, .int .i64 q0, .int .i64 q1]) :: []) (by kernel_rfl) (by kernel_rfl) (by kernel_rfl) (by decide) rfl
  intro K hK
  refine OblS.val (by kernel_rfl) (fun w' _ _ => (by kernel_rfl)) ?_
  refine ⟨OwnsV.stable, fun w' hb _ => .inl ⟨by kernel_rfl, ?_⟩, fun v1 => ?_⟩
  · refine wp_app54 _ _ rfl w'.heap.size (.slice none 0 0) 0 [] rfl (World.ownsRow_nil _ _ _ _) A n c dive rfl HA.out (HD.out.keep (nextB B0.out hb)) (by omega) (Nat.le_refl _) ?_
    intro v' w2 ho hb2
    exact ⟨v', rfl, owns_base (nextB B0.out hb).size (by simpa using ho), hb2⟩
  refine OblS.row rfl 43 (.tmp 4) rfl w.heap.size (by kernel_rfl) 43 _ _ P0.out Tryz.underlying43 rfl (by kernel_rfl) ?_
  refine OblS.row rfl 43 (.tmp 5) rfl (w.heap.size + 1) (by kernel_rfl) 43 _ _ Q0.out Tryz.underlying43 rfl (by kernel_rfl) ?_
  refine OblS.val (by kernel_rfl) (fun w' _ _ => (by kernel_rfl)) ?_
  refine OblS.run (by rintro v a b ⟨B, e, h⟩ hb; exact ⟨B, e, h.after hb⟩) (by kernel_rfl) (fun w' hb _ => ⟨_, _, (by kernel_rfl), ⟨w'.heap.size, rfl, Has.new w' 80 _⟩, newB (Below.refl _ _) _⟩) ?_
  intro v2
  apply OblS.nil
  apply hK
  intro w5 hb hH
  obtain ⟨B, rfl, hB⟩ := hH _ (List.mem_cons_self ..)
  have hO := hH _ (List.mem_cons_of_mem _ (List.mem_cons_self ..))
  have HO := Lib.hid hO; have HBB := Lib.hid hB; have HB5 := Lib.hid (nextB B0.out hb)
  clear hH hK K hO hB hb
  simp only [Act.put, List.setIfInBounds_toArray, List.set_cons_zero, List.set_cons_succ, List.drop_succ_cons, List.drop_zero]
  go_wp2_with (at_builtin; refine wpList_app54 rfl _ _ rfl w.heap.size v1 n dive rfl HO.out (some ⟨B, 0, none⟩) 1 1 [⟨p0, p1, q0, q1⟩] rfl (by intro h; cases h) (SlOf.of_cells St.cs_len HBB.out rfl rfl) (by omega) HB5.out.size ?_; intro v3 w3 ho3 hb3; have HO3 := Lib.hid ho3; have HB3 := Lib.hid (HB5.out.trans hb3); clear ho3 hb3)
  exact bodyPost_ret (results_tmp rfl _ _ _) rfl ⟨v3, rfl, HO3.out, HB3.out⟩

theorem More_c (A : Option Addr) (n c : Nat) (dive : List St) (hA : A = none → c = 0) (hn : n ≤ 1000) (p0 p1 q0 q1 : Int) (w : World) (hd : SlOf St.cs 4 w A n dive) :
    Calls Tryz.prog 23 #[.slice A n c, .agg #[.int .i64 p0, .int .i64 p1], .agg #[.int .i64 q0, .int .i64 q1]] w fun e w' => ∃ g cap, e = .returned (.slice (some ⟨g, 0, none⟩) (n + 1) cap) ∧ SlOf St.cs 4 w' (some ⟨g, 0, none⟩) (n + 1) (dive ++ [⟨p0, p1, q0, q1⟩]) ∧ Below w.heap.size w w' := by
  refine (more_o A n c dive hA hn p0 p1 q0 q1 w hd).mono fun e w' h => ?_
  obtain ⟨g, cap, e1, h1, h2⟩ := h.row (by omega)
  exact ⟨g, cap, e1, h1.sl St.cs_len, h2⟩
end Go.Proofs
namespace Go.Proofs
open Go.RowKit Gas

theorem leadFrom_ge (p : Int → Bool) : ∀ (n : Nat) (d : Int), d ≤ leadFrom p n d ∧ leadFrom p n d ≤ d + n
  | 0, d => by simp [leadFrom]
  | n + 1, d => by
    unfold leadFrom
    split
    · have := leadFrom_ge p n (d + 1); omega
    · omega
theorem leadFrom_true (p : Int → Bool) : ∀ (n : Nat) (d x : Int), d ≤ x → x < leadFrom p n d → p x = true
  | 0, d, x, h1, h2 => by simp [leadFrom] at h2; omega
  | n + 1, d, x, h1, h2 => by
    unfold leadFrom at h2
    split at h2
    · rename_i hp
      rcases Int.lt_or_le d x with h | h
      · exact leadFrom_true p n (d + 1) x (by omega) h2
      · have : x = d := by omega
        rw [this]; exact hp
    · omega
theorem leadFrom_false (p : Int → Bool) : ∀ (n : Nat) (d : Int), leadFrom p n d < d + n → p (leadFrom p n d) = false
  | 0, d, h => by simp [leadFrom] at h
  | n + 1, d, h => by
    unfold leadFrom at h ⊢
    split at h
    · rename_i hp
      rw [if_pos hp]
      exact leadFrom_false p n (d + 1) (by omega)
    · rename_i hp
      rw [if_neg hp]
      simpa using hp
theorem leadFrom_mono (p q : Int → Bool) : ∀ (n : Nat) (d : Int), (∀ x, d ≤ x → x < d + n → p x = true → q x = true) → leadFrom p n d ≤ leadFrom q n d
  | 0, d, h => Int.le_refl _
  | n + 1, d, h => by
    unfold leadFrom
    by_cases hp : p d = true
    · rw [if_pos hp, if_pos (h d (by omega) (by omega) hp)]
      exact leadFrom_mono p q n (d + 1) fun x h1 h2 => h x (by omega) (by omega)
    · rw [if_neg hp]
      have := leadFrom_ge q (n + 1) d
      unfold leadFrom at this
      exact this.1
theorem lead_bd (p : Int → Bool) : 0 ≤ lead p ∧ lead p ≤ 41 := by have := leadFrom_ge p 41 0; unfold lead; omega
theorem lead_true {p : Int → Bool} {x : Int} (h0 : 0 ≤ x) (h : x < lead p) : p x = true := leadFrom_true p 41 0 x h0 h
theorem lead_false {p : Int → Bool} (h : lead p < 41) : p (lead p) = false := leadFrom_false p 41 0 (by unfold lead at h; omega)
theorem lead_mono {p q : Int → Bool} (h : ∀ x, 0 ≤ x → x ≤ 40 → p x = true → q x = true) : lead p ≤ lead q := leadFrom_mono p q 41 0 fun x h1 h2 => h x h1 (by omega)

theorem maxOf_mono {f g : Int → Int} {lo : Int} : ∀ n : Nat, (∀ x, lo ≤ x → x < lo + n ∨ x = lo → f x ≤ g x) → maxOf f lo n ≤ maxOf g lo n
  | 0, h => h lo (by omega) (.inr rfl)
  | n + 1, h => by
    have a := maxOf_mono n (fun x h1 h2 => h x h1 (by omega))
    have b := h (lo + n) (by omega) (by omega)
    simp only [maxOf]; omega
theorem keptTo_iff (ps rs : List Pr) (h : Nat → Int → Pr) (d : Int) (k : Bool) : ∀ n, keptTo ps rs h d k n = true ↔ k = true ∧ ∀ p, p < n → exceedsB ps rs h p d = false
  | 0 => by simp [keptTo]
  | n + 1 => by
    simp only [keptTo, Bool.and_eq_true, keptTo_iff ps rs h d k n, Bool.not_eq_true']
    constructor
    · rintro ⟨⟨a, b⟩, c⟩
      exact ⟨a, fun p hp => by rcases Nat.lt_succ_iff_lt_or_eq.1 hp with h | rfl; exact b p h; exact c⟩
    · rintro ⟨a, b⟩
      exact ⟨⟨a, fun p hp => b p (by omega)⟩, b n (by omega)⟩
theorem enterB_iff (ps rs : List Pr) (h : Nat → Int → Pr) (d : Int) (k : Bool) : enterB ps rs h d k = true ↔ k = true ∧ ∀ p, p < ps.length → exceedsB ps rs h p d = false := keptTo_iff ps rs h d k _
theorem exceedsB_false (ps rs : List Pr) (h : Nat → Int → Pr) (p : Nat) (d : Int) : exceedsB ps rs h p d = false ↔ greatF rs h p ≤ (ps.getD p (0, 0)).1 + (ps.getD p (0, 0)).2 * d := by
  unfold exceedsB
  rw [decide_eq_false_iff_not]; omega
/-- The most that is held. -/
theorem greatF_mono {rs : List Pr} {h h' : Nat → Int → Pr} {p : Nat} (hr : (rs.getD p (0, 0)).1 ≤ (rs.getD p (0, 0)).2) (hh : ∀ x, (rs.getD p (0, 0)).1 ≤ x → x ≤ (rs.getD p (0, 0)).2 → (h p x).2 ≤ (h' p x).2) : greatF rs h p ≤ greatF rs h' p := by
  unfold greatF
  apply maxOf_mono
  intro x h1 h2
  refine hh x h1 ?_
  unfold ratesN at h2
  omega
/-- A dive with one stage of just some minutes: who is less deep, and begins deeper at least, is surely within the limits if the other is. -/
theorem limitP_mono {t : Tm} (ht : t.Ok) (hl : t.ps.length = t.rs.length) {l g l' g' d : Int} (h1 : l ≤ l') (h2 : g' ≤ g) (h : limitP t.ps t.rs (h0, true) l g d = true) : limitP t.ps t.rs (h0, true) l' g' d = true := by
  unfold limitP at h ⊢
  rw [enterB_iff, enterB_iff] at h ⊢
  obtain ⟨⟨_, a⟩, b⟩ := h
  refine ⟨⟨rfl, fun p hp => ?_⟩, fun p hp => ?_⟩
  · have := a p hp
    rw [exceedsB_false] at this ⊢
    have hpt := ht.part hp
    have := Int.mul_le_mul_of_nonneg_left h1 hpt.2.2.1
    simp only [stayS] at *
    omega
  · have := b p hp
    rw [exceedsB_false] at this ⊢
    have hr := ht.rate (p := p) (by omega)
    refine Int.le_trans (greatF_mono hr.2.1 fun x k1 k2 => ?_) this
    simp only [stayH, aftP, stayS, Int.sub_self, Int.toNat_zero, allF, nowF, h0]
    exact loadF_mono (by omega) (Int.le_refl _) h2 _
/-- What Surely returns of a dive with one stage of just some minutes. -/
theorem sureF_one {t : Tm} {l g d : Int} (hd : definedB t.ps t.ss t.rs [] 0 = true) (ho : ordB l g 0 40 6 = true) (h1 : 0 ≤ d ∧ d ≤ 120) : sureF t [⟨l, g, d, d⟩] = (limitP t.ps t.rs (h0, true) l g d, 0) := by
  have : definedB t.ps t.ss t.rs [⟨l, g, d, d⟩] 0 = true := by
    simp only [definedB, diveB, Bool.and_eq_true] at hd ⊢
    refine ⟨hd.1, ?_, ?_⟩
    · rfl
    · simp only [List.all_cons, List.all_nil, Bool.and_true, stageB, ho, Bool.true_and]
      simp only [ordB, decide_eq_true_eq]; omega
  rw [sureF, if_pos this]
  rfl
end Go.Proofs
