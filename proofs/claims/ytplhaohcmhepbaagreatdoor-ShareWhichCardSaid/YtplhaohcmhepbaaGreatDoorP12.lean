/-
  Contracts of the specification's Season, Common and Claims hold at every season of moderate size.
-/
import Derived.Test.YtplhaohcmhepbaaGreatDoorP9
import Derived.Test.YtplhaohcmhepbaaGreatDoorP2
import Derived.Test.YtplhaohcmhepbaaGreatDoorP6
namespace Go.Proofs
open Go.RowKit Go.Shelf
attribute [local go_sem ↓] Go.wp_at_zero Go.wp_at_succ

theorem coins_c (n : Int) (w : World) : Calls Tryz.prog 83 #[.int .i64 n] w fun e w' => e = .returned (.bool (inB n 0 100000)) ∧ w = w' := by
  have HI := Lib.hid fun (W : World) => refIn_c n 0 100000 W
  go_enter Tryz.func83, Tryz.ntmps83
  go_wp2_with (go_at_call 82; refine (HI.out _).mono ?_; rintro e w1 ⟨rfl, rfl⟩)
  exact bodyPost_ret (results_tmp rfl _ _ _) rfl ⟨rfl, rfl⟩
theorem refSet_c (s : Int) (n : Nat) (hn : n ≤ 40) (w : World) : Calls Tryz.prog 84 #[.int .i64 s, .int .i64 n] w fun e w' => e = .returned (.bool (inB s 0 (2 ^ n - 1))) ∧ w = w' := by
  have HI := Lib.hid fun (W : World) => refIn_c s 0 (2 ^ n - 1) W
  have HP := Lib.hid fun (W : World) => power_c n hn W
  have hp := pow_bd n hn
  generalize (2 : Int) ^ n = p at *
  have e1 : wrap64 (p - 1) = p - 1 := w64 (by omega) (by omega)
  go_enter Tryz.func84, Tryz.ntmps84
  go_wp2_with (first
    | (go_at_call 93; refine (HP.out _).mono ?_; rintro e w1 ⟨rfl, rfl⟩)
    | (go_at_call 82; refine (HI.out _).mono ?_; rintro e w1 ⟨rfl, rfl⟩))
  exact bodyPost_ret (results_tmp rfl _ _ _) rfl ⟨rfl, rfl⟩
end Go.Proofs
namespace Go.Proofs
open Go.RowKit Go.Shelf
attribute [local go_sem ↓] Go.wp_at_zero Go.wp_at_succ

end Go.Proofs
namespace Go.Proofs
open Go.RowKit Go.Shelf
attribute [local go_sem ↓] Go.wp_at_zero Go.wp_at_succ

end Go.Proofs
namespace Go.Proofs
open Go.RowKit Go.Shelf
attribute [local go_sem ↓] Go.wp_at_zero Go.wp_at_succ

end Go.Proofs
namespace Go.Proofs
open Go.RowKit Go.Shelf
attribute [local go_sem ↓] Go.wp_at_zero Go.wp_at_succ

end Go.Proofs
namespace Go.Proofs
open Go.RowKit Go.Shelf
attribute [local go_sem ↓] Go.wp_at_zero Go.wp_at_succ

theorem sum_take_pe {ps : List Pe} {k : Nat} {x : Pe} (hx : ps[k]? = some x) : sumI ((ps.take (k + 1)).map Pe.p) = sumI ((ps.take k).map Pe.p) + x.p := by
  have hk := (List.getElem?_eq_some_iff.1 hx).1
  have e : ps.take (k + 1) = ps.take k ++ [x] := by
    rw [← List.take_append_getElem hk]
    have := List.getElem?_eq_getElem hk
    rw [hx] at this; cases this; rfl
  rw [e, List.map_append, sumI_append]; simp [sumI]
theorem season_no {ps : List Pe} {ls : List La} {k : Nat} {x : Pe} (hx : ps[k]? = some x) (h : peB x = false) : seasonB ps ls = false := by
  have : ps.all peB = false := all_not hx h
  simp [seasonB, persB, this]
theorem season_no2 {ps : List Pe} {ls : List La} {k : Nat} {x : La} (hx : ls[k]? = some x) (h : laB ps.length x = false) : seasonB ps ls = false := by
  have : ls.all (laB ps.length) = false := all_not hx h
  simp [seasonB, this]

set_option maxHeartbeats 1000000 in
set_option maxRecDepth 20000 in
theorem refSeason_c (s : Sv) (hpn : s.pn ≤ 1000000) (hln : s.ln ≤ 1000000) (w : World) (hi : s.In w) :
    Calls Tryz.prog 27 #[s.val] w fun e w' => e = .returned (.bool (seasonB s.ps s.ls)) ∧ Below w.heap.size w w' := by
  obtain ⟨pA, lA, pn, pc, ln, lc, ps, ls⟩ := s
  obtain ⟨hp, hl⟩ := hi
  simp only [Sv.val] at *
  have HP := Lib.hid hp; have HPN := Lib.hid hp.1; have HL := Lib.hid hl; have HLN := Lib.hid hl.1
  have B1 := Lib.hid (newB (Below.refl w.heap.size w) (.cells #[.slice pA pn pc, .slice lA ln lc] 25))
  have F1 := Lib.hid (Has.new w 25 #[.slice pA pn pc, .slice lA ln lc])
  clear hp hl
  have HI := Lib.hid fun (W : World) => refIn_c (pn : Int) 2 6 W
  cases h1 : inB (pn : Int) 2 6
  · have HE := Lib.hid (show seasonB ps ls = false by simp [seasonB, persB, HPN.out, h1])
    rw [h1] at HI
    rw [HE.out]
    clear h1
    go_enter Tryz.func27, Tryz.ntmps27
    go_wp2_with (go_at_call 82; refine (HI.out _).mono ?_; rintro e w2 ⟨rfl, rfl⟩)
    exact bodyPost_ret (results_tmp rfl _ _ _) rfl ⟨rfl, B1.out⟩
  · by_cases h2 : 6 < ln
    · have HE := Lib.hid (show seasonB ps ls = false by
        have : ¬ ls.length ≤ 6 := by rw [HLN.out]; omega
        simp [seasonB, this])
      rw [h1] at HI
      rw [HE.out]
      clear h1
      go_enter Tryz.func27, Tryz.ntmps27
      go_wp2_with (go_at_call 82; refine (HI.out _).mono ?_; rintro e w2 ⟨rfl, rfl⟩)
      exact bodyPost_ret (results_tmp rfl _ _ _) rfl ⟨rfl, B1.out⟩
    · have H1 := Lib.hid h1
      have hp6 : 2 ≤ pn ∧ pn ≤ 6 := by simp only [inB, decide_eq_true_eq] at h1; omega
      rw [h1] at HI
      clear h1
      go_enter Tryz.func27, Tryz.ntmps27
      go_wp2_with (go_at_call 82; refine (HI.out _).mono ?_; rintro e w2 ⟨rfl, rfl⟩)
      generalize w.alloc (.cells #[.slice pA pn pc, .slice lA ln lc] 25) = w1 at *
      go_loopw [3, 4] (fun v i wr => ∃ k : Nat, k ≤ pn ∧ i = .int .i64 k ∧ v = .int .i64 (sumI ((ps.take k).map Pe.p)) ∧ Below w1.heap.size w1 wr ∧ (∀ (j : Nat) x, j < k → ps[j]? = some x → peB x = true)) (fun _ i _ => pn - (intOf i).toNat)
      case atStart => exact ⟨0, by omega, rfl, by simp [sumI], Below.refl _ _, fun j x hj => absurd hj (by omega)⟩
      case round =>
        obtain ⟨k, hk, rfl, rfl, hB, hA⟩ := hrel
        have HB := Lib.hid hB; have HA := Lib.hid hA
        have cf := (F1.out.after hB).cell
        have hsb : 0 ≤ sumI ((ps.take k).map Pe.p) ∧ sumI ((ps.take k).map Pe.p) ≤ 144 := by
          have hb : ∀ z ∈ (ps.take k).map Pe.p, 0 ≤ z ∧ z ≤ 24 := fun z hz => by
            obtain ⟨x, hx, rfl⟩ := List.mem_map.1 hz
            obtain ⟨j, hj, rfl⟩ := List.getElem_of_mem hx
            have hj2 : j < k ∧ j < ps.length := by simp at hj; omega
            have h := hA j ps[j] hj2.1 (List.getElem?_eq_getElem hj2.2)
            rw [List.getElem_take]
            simp only [peB, Bool.and_eq_true, inB, decide_eq_true_eq] at h
            omega
          have q1 := sumI_bd _ 24 (fun z hz => by have := hb z hz; omega)
          have q2 := sumI_nonneg _ (fun z hz => (hb z hz).1)
          have q3 : ((ps.take k).map Pe.p).length ≤ 6 := by simp; omega
          omega
        clear hB hA
        by_cases hkn : k < pn
        · have hkl : k < ps.length := by rw [HPN.out]; exact hkn
          have hx := List.getElem?_eq_getElem hkl
          obtain ⟨x, hxx⟩ : ∃ x, x = ps[k] := ⟨_, rfl⟩
          rw [← hxx] at hx
          have HX := Lib.hid hx
          have HT := Lib.hid (sum_take_pe hx)
          obtain ⟨b, o, he⟩ := HP.out.addr (by omega)
          subst he
          have hR := Lib.hid (((HP.out.keep B1.out).keep HB.out).range Pe.cs_len hx)
          obtain ⟨p, d, f⟩ := x
          replace hR := Lib.hid (show wr.rangeAt b (o + k * 3) [.int .i64 p, .int .i64 d, .int .i64 f] from hR.out)
          have HIp := Lib.hid fun (W : World) => refIn_c p 1 24 W
          have HId := Lib.hid fun (W : World) => coins_c d W
          have BX := Lib.hid (newB (nextB B1.out HB.out) (.cells #[.int .i64 p, .int .i64 d, .int .i64 f] 49))
          have BY := Lib.hid (newB HB.out (.cells #[.int .i64 p, .int .i64 d, .int .i64 f] 49))
          clear hx hxx
          cases h3 : inB p 1 24
          · have HE := Lib.hid (season_no (ls := ls) HX.out (show peB ⟨p, d, f⟩ = false by simp [peB, h3]))
            rw [h3] at HIp
            clear h3
            go_wp2_with (refine wpList_load_mid rfl 49 _ rfl b (o + k * 3) rfl _ _ hR.out Tryz.underlying49 rfl (by kernel_rfl) ?_)
            go_wp2_with (first
              | (go_at_call 82; refine (HIp.out _).mono ?_; rintro e w2 ⟨rfl, rfl⟩))
            exact bodyPost_ret (results_tmp rfl _ _ _) rfl ⟨by rw [HE.out]; rfl, BX.out⟩
          · cases h4 : inB d 0 100000
            · have HE := Lib.hid (season_no (ls := ls) HX.out (show peB ⟨p, d, f⟩ = false by simp [peB, h4]))
              rw [h3] at HIp
              rw [h4] at HId
              clear h3 h4
              go_wp2_with (refine wpList_load_mid rfl 49 _ rfl b (o + k * 3) rfl _ _ hR.out Tryz.underlying49 rfl (by kernel_rfl) ?_)
              go_wp2_with (first
                | (go_at_call 82; refine (HIp.out _).mono ?_; rintro e w2 ⟨rfl, rfl⟩)
                | (go_at_call 83; refine (HId.out _).mono ?_; rintro e w2 ⟨rfl, rfl⟩))
              exact bodyPost_ret (results_tmp rfl _ _ _) rfl ⟨by rw [HE.out]; rfl, BX.out⟩
            · by_cases h5 : f < 1
              · have HE := Lib.hid (season_no (ls := ls) HX.out (show peB ⟨p, d, f⟩ = false by simp [peB, inB]; omega))
                rw [h3] at HIp
                rw [h4] at HId
                clear h3 h4
                go_wp2_with (refine wpList_load_mid rfl 49 _ rfl b (o + k * 3) rfl _ _ hR.out Tryz.underlying49 rfl (by kernel_rfl) ?_)
                go_wp2_with (first
                  | (go_at_call 82; refine (HIp.out _).mono ?_; rintro e w2 ⟨rfl, rfl⟩)
                  | (go_at_call 83; refine (HId.out _).mono ?_; rintro e w2 ⟨rfl, rfl⟩))
                exact bodyPost_ret (results_tmp rfl _ _ _) rfl ⟨by rw [HE.out]; rfl, BX.out⟩
              · by_cases h6 : 3 < f
                · have HE := Lib.hid (season_no (ls := ls) HX.out (show peB ⟨p, d, f⟩ = false by simp [peB, inB]; omega))
                  rw [h3] at HIp
                  rw [h4] at HId
                  clear h3 h4
                  go_wp2_with (refine wpList_load_mid rfl 49 _ rfl b (o + k * 3) rfl _ _ hR.out Tryz.underlying49 rfl (by kernel_rfl) ?_)
                  go_wp2_with (first
                    | (go_at_call 82; refine (HIp.out _).mono ?_; rintro e w2 ⟨rfl, rfl⟩)
                    | (go_at_call 83; refine (HId.out _).mono ?_; rintro e w2 ⟨rfl, rfl⟩))
                  exact bodyPost_ret (results_tmp rfl _ _ _) rfl ⟨by rw [HE.out]; rfl, BX.out⟩
                · have hp24 : 1 ≤ p ∧ p ≤ 24 := by simpa [inB] using h3
                  have HN := Lib.hid (show ∀ (j : Nat) x, j < k + 1 → ps[j]? = some x → peB x = true from all_next HA.out HX.out (by simp only [peB, h3, h4]; simp [inB]; omega))
                  rw [h3] at HIp
                  rw [h4] at HId
                  clear h3 h4
                  simp only at HT
                  generalize sumI ((ps.take k).map Pe.p) = S at *
                  have e1 : wrap64 (S + p) = S + p := w64 (by omega) (by omega)
                  go_wp2_with (refine wpList_load_mid rfl 49 _ rfl b (o + k * 3) rfl _ _ hR.out Tryz.underlying49 rfl (by kernel_rfl) ?_)
                  go_wp2_with (first
                    | (go_at_call 82; refine (HIp.out _).mono ?_; rintro e w2 ⟨rfl, rfl⟩)
                    | (go_at_call 83; refine (HId.out _).mono ?_; rintro e w2 ⟨rfl, rfl⟩))
                  go_roundw
                  case rel => exact ⟨k + 1, by omega, by go_num, by rw [HT.out], BY.out, HN.out⟩
                  case measure => first | (simp [intOf]; done) | (simp [intOf]; omega)
        · have hke : k = pn := by omega
          subst hke
          have HAP := Lib.hid (show ps.all peB = true from all_take HPN.out HA.out (Nat.le_refl _))
          have HTe := Lib.hid (show ps.take k = ps from List.take_of_length_le (by rw [HPN.out]; exact Nat.le_refl _))
          rw [HTe.out] at hsb
          rw [HTe.out]
          clear HA
          have BA := Lib.hid HB.out
          generalize wr = wa at *
          go_wp2
          go_loopw [6] (fun i wr => ∃ j : Nat, j ≤ ln ∧ i = .int .i64 j ∧ Below w1.heap.size w1 wr ∧ (∀ (t : Nat) x, t < j → ls[t]? = some x → laB k x = true)) (fun i _ => ln - (intOf i).toNat)
          case atStart => exact ⟨0, by omega, rfl, BA.out, fun j x hj => absurd hj (by omega)⟩
          case round =>
            obtain ⟨j, hj, rfl, hB, hA⟩ := hrel
            have HB := Lib.hid hB; have HA := Lib.hid hA
            have cfj := (F1.out.after hB).cell
            clear hB hA cf
            by_cases hjn : j < ln
            · have hjl : j < ls.length := by rw [HLN.out]; exact hjn
              have hy := List.getElem?_eq_getElem hjl
              obtain ⟨y, hyy⟩ : ∃ y, y = ls[j] := ⟨_, rfl⟩
              rw [← hyy] at hy
              have HY := Lib.hid hy
              obtain ⟨b, o, he⟩ := HL.out.addr (by omega)
              subst he
              have hR := Lib.hid (((HL.out.keep B1.out).keep HB.out).range La.cs_len hy)
              obtain ⟨g, c, m⟩ := y
              replace hR := Lib.hid (show wr.rangeAt b (o + j * 3) [.int .i64 g, .int .i64 c, .int .i64 m] from hR.out)
              have FZ := Lib.hid ((F1.out.after HB.out).alloc (.cells #[.int .i64 g, .int .i64 c, .int .i64 m] 44))
              have cz0 : (wr.alloc (.cells #[.int .i64 g, .int .i64 c, .int .i64 m] 44)).cell? ⟨w.heap.size, 0, none⟩ = some (.slice pA k pc) := FZ.out.cell 0
              have hzlt : w.heap.size < wr.heap.size := (F1.out.after HB.out).lt
              have HIc := Lib.hid fun (v : Int) (b : Bool) (hv : inB v 0 100000 = b) (W : World) => (show Calls Tryz.prog 83 #[.int .i64 v] W fun e w' => e = .returned (.bool b) ∧ W = w' from by rw [← hv]; exact coins_c v W)
              have HIm := Lib.hid fun (W : World) => refSet_c m k (by omega) W
              have BX := Lib.hid (newB (nextB B1.out HB.out) (.cells #[.int .i64 g, .int .i64 c, .int .i64 m] 44))
              have BY := Lib.hid (newB HB.out (.cells #[.int .i64 g, .int .i64 c, .int .i64 m] 44))
              clear hy hyy
              have key : ∀ v, laB k ⟨g, c, m⟩ = v → (v = false → seasonB ps ls = false) := fun v hv hf => by
                subst hf
                exact season_no2 HY.out (by rw [HPN.out]; exact hv)
              have KEY := Lib.hid key
              clear key
              cases h3 : inB g 0 100000
              · have HE := Lib.hid (KEY.out false (by simp [laB, h3]) rfl)
                have H3 := Lib.hid h3
                clear h3
                go_wp2_with (refine wpList_load_mid rfl 44 _ rfl b (o + j * 3) rfl _ _ hR.out Tryz.underlying44 rfl (by kernel_rfl) ?_)
                go_wp2_with (first
                  | (go_at_call 83; refine (HIc.out g _ H3.out _).mono ?_; rintro e w2 ⟨rfl, rfl⟩))
                exact bodyPost_ret (results_tmp rfl _ _ _) rfl ⟨by rw [HE.out]; rfl, BX.out⟩
              · cases h4 : inB c 0 100000
                · have HE := Lib.hid (KEY.out false (by simp [laB, h4]) rfl)
                  have H3 := Lib.hid h3
                  have H4 := Lib.hid h4
                  clear h3 h4
                  go_wp2_with (refine wpList_load_mid rfl 44 _ rfl b (o + j * 3) rfl _ _ hR.out Tryz.underlying44 rfl (by kernel_rfl) ?_)
                  go_wp2_with (first
                    | (go_at_call 83; (first | (with_reducible refine (HIc.out g _ H3.out _).mono ?_) | (with_reducible refine (HIc.out c _ H4.out _).mono ?_)); rintro e w2 ⟨rfl, rfl⟩))
                  exact bodyPost_ret (results_tmp rfl _ _ _) rfl ⟨by rw [HE.out]; rfl, BX.out⟩
                · cases h5 : inB m 0 (2 ^ k - 1)
                  · have HE := Lib.hid (KEY.out false (by simp [laB, h5]) rfl)
                    have H3 := Lib.hid h3
                    have H4 := Lib.hid h4
                    rw [h5] at HIm
                    clear h3 h4 h5
                    go_wp2_with (refine wpList_load_mid rfl 44 _ rfl b (o + j * 3) rfl _ _ hR.out Tryz.underlying44 rfl (by kernel_rfl) ?_)
                    go_wp2_with (first
                      | (go_at_call 83; (first | (with_reducible refine (HIc.out g _ H3.out _).mono ?_) | (with_reducible refine (HIc.out c _ H4.out _).mono ?_)); rintro e w2 ⟨rfl, rfl⟩)
                      | (go_at_call 84; refine (HIm.out _).mono ?_; rintro e w2 ⟨rfl, rfl⟩))
                    exact bodyPost_ret (results_tmp rfl _ _ _) rfl ⟨by rw [HE.out]; rfl, BX.out⟩
                  · have hm : 0 ≤ m ∧ m ≤ 2 ^ k - 1 := by simpa [inB] using h5
                    have hpw := pow_bd k (by omega)
                    have HIh := Lib.hid fun (W : World) => refHas_c m hm.1 (by omega) 0 (by omega) W
                    have HL1 := Lib.hid (show laB k ⟨g, c, m⟩ = hasB m 0 by simp [laB, h3, h4, h5])
                    have H3 := Lib.hid h3
                    have H4 := Lib.hid h4
                    rw [h5] at HIm
                    clear h3 h4 h5
                    cases h6 : hasB m 0
                    · have HE := Lib.hid (KEY.out false (by rw [HL1.out, h6]) rfl)
                      rw [h6] at HIh
                      clear h6
                      go_wp2_with (refine wpList_load_mid rfl 44 _ rfl b (o + j * 3) rfl _ _ hR.out Tryz.underlying44 rfl (by kernel_rfl) ?_)
                      go_wp2_with (first
                        | (go_at_call 83; (first | (with_reducible refine (HIc.out g _ H3.out _).mono ?_) | (with_reducible refine (HIc.out c _ H4.out _).mono ?_)); rintro e w2 ⟨rfl, rfl⟩)
                        | (go_at_call 84; refine (HIm.out _).mono ?_; rintro e w2 ⟨rfl, rfl⟩)
                        | (go_at_call 36; refine (HIh.out _).mono ?_; rintro e w2 ⟨rfl, rfl⟩))
                      exact bodyPost_ret (results_tmp rfl _ _ _) rfl ⟨by rw [HE.out]; rfl, BX.out⟩
                    · have HN := Lib.hid (show ∀ (t : Nat) x, t < j + 1 → ls[t]? = some x → laB k x = true from all_next HA.out HY.out (by rw [HL1.out, h6]))
                      rw [h6] at HIh
                      clear h6
                      go_wp2_with (refine wpList_load_mid rfl 44 _ rfl b (o + j * 3) rfl _ _ hR.out Tryz.underlying44 rfl (by kernel_rfl) ?_)
                      go_wp2_with (first
                        | (go_at_call 83; (first | (with_reducible refine (HIc.out g _ H3.out _).mono ?_) | (with_reducible refine (HIc.out c _ H4.out _).mono ?_)); rintro e w2 ⟨rfl, rfl⟩)
                        | (go_at_call 84; refine (HIm.out _).mono ?_; rintro e w2 ⟨rfl, rfl⟩)
                        | (go_at_call 36; refine (HIh.out _).mono ?_; rintro e w2 ⟨rfl, rfl⟩))
                      go_roundw
                      case rel => exact ⟨j + 1, by omega, by go_num, BY.out, HN.out⟩
                      case measure => first | (simp [intOf]; done) | (simp [intOf]; omega)
            · have hje : j = ln := by omega
              subst hje
              have HAL := Lib.hid (show ls.all (laB k) = true from all_take HLN.out HA.out (Nat.le_refl _))
              have hx0 : ∃ x, ps[0]? = some x := ⟨_, List.getElem?_eq_getElem (by rw [HPN.out]; omega)⟩
              obtain ⟨⟨p0, d0, f0⟩, hx0⟩ := hx0
              obtain ⟨b, o, he⟩ := HP.out.addr (by omega)
              subst he
              have q1 : wr.cell? ⟨b, o + 1, none⟩ = some (.int .i64 d0) := by
                have := ((HP.out.keep B1.out).keep HB.out).range Pe.cs_len hx0 1 _ rfl
                simpa using this
              have q2 : wr.cell? ⟨b, o + 2, none⟩ = some (.int .i64 f0) := by
                have := ((HP.out.keep B1.out).keep HB.out).range Pe.cs_len hx0 2 _ rfl
                simpa using this
              have HS := Lib.hid (show seasonB ps ls = (decide (sumI (ps.map Pe.p) ≤ 24) && (d0 == 0 && f0 == 1)) from by
                have hh : houseB ps = (d0 == 0 && f0 == 1) := by
                  cases ps with
                  | nil => simp at hx0
                  | cons z r => simp at hx0; subst hx0; rfl
                have hll : ls.length ≤ 6 := by rw [HLN.out]; omega
                unfold seasonB persB
                rw [HPN.out, H1.out, HAP.out, HAL.out, hh]
                simp [hll])
              clear hx0 HA
              have BZ := Lib.hid (nextB B1.out HB.out)
              generalize sumI (ps.map Pe.p) = S at *
              by_cases a1 : S ≤ 24
              · by_cases a2 : d0 = 0
                · subst a2
                  by_cases a3 : f0 = 1
                  · subst a3
                    go_wp2
                    exact bodyPost_ret (results_tmp rfl _ _ _) rfl ⟨by rw [HS.out]; simp [a1], BZ.out⟩
                  · have e3 : (f0 == 1) = false := by simp [a3]
                    go_wp2
                    exact bodyPost_ret (results_tmp rfl _ _ _) rfl ⟨by rw [HS.out]; simp [a1, a3], BZ.out⟩
                · have e2 : (d0 == 0) = false := by simp [a2]
                  go_wp2
                  exact bodyPost_ret (results_tmp rfl _ _ _) rfl ⟨by rw [HS.out]; simp [a1, a2], BZ.out⟩
              · go_wp2
                exact bodyPost_ret (results_tmp rfl _ _ _) rfl ⟨by rw [HS.out]; simp; intro h; omega, BZ.out⟩
end Go.Proofs
