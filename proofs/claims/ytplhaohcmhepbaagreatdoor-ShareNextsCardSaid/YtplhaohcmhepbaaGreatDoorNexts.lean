/-
  The statement ShareNexts holds for every input: the law returns true and what came in reads as before.
-/
import Derived.Test.YtplhaohcmhepbaaGreatDoorP14
import Derived.Test.YtplhaohcmhepbaaGreatDoorP13
import Derived.Test.YtplhaohcmhepbaaGreatDoorP17
import Derived.Test.YtplhaohcmhepbaaGreatDoorRows
import Derived.Test.YtplhaohcmhepbaaGreatDoorTie
import Derived.Test.YtplhaohcmhepbaaGreatDoorCards
import Derived.Test.YtplhaohcmhepbaaGreatDoorChecked
import Derived.ProofKit
import Derived.OpenShut
import Derived.LaidMore
import Derived.Stop.Joined
import Derived.SevenTiedAt
import Derived.Carry
import Derived.Lay
namespace Go.Proofs
open Go.RowKit Go.Shelf
attribute [local go_sem ↓] Go.wp_at_zero Go.wp_at_succ

/-- The specification's rule for one advance. -/
def rAdv (ps : List Pe) (xs : List Int) (i : Nat) : Bool := inB (xs.getD i 0) 0 100000 && !(decide (0 < xs.getD i 0) && (i == 0 || (ps.getD i ⟨0, 0, 0⟩).f != 1))
theorem adv_eq {ps : List Pe} {xs : List Int} (hl : xs.length = ps.length) (h0 : 0 < ps.length) : advB ps xs = (List.range ps.length).all (rAdv ps xs) := by
  apply Bool.eq_iff_iff.2
  unfold advB coinsB
  simp only [Bool.and_eq_true, List.all_eq_true, List.mem_range, decide_eq_true_eq, beq_iff_eq]
  have hget : ∀ i, i < ps.length → ∃ y, xs[i]? = some y ∧ xs.getD i 0 = y ∧ y ∈ xs := fun i hi => by
    have hi2 : i < xs.length := by omega
    exact ⟨xs[i], List.getElem?_eq_getElem hi2, by simp [List.getD_eq_getElem?_getD, List.getElem?_eq_getElem hi2], List.getElem_mem hi2⟩
  constructor
  · rintro ⟨⟨⟨_, h1⟩, h2⟩, h3⟩ i hi
    obtain ⟨y, hy, hd, hm⟩ := hget i hi
    have h4 := h3 i hi
    unfold advOk at h4
    unfold rAdv
    rw [hd] at h4 ⊢
    rw [h2 y hm, Bool.true_and]
    by_cases hp : 0 < y
    · by_cases hi0 : i = 0
      · subst hi0; rw [hd] at h1; omega
      · simp [hp] at h4; simp [hp, hi0, h4]
    · simp [hp]
  · intro h
    refine ⟨⟨⟨hl, ?_⟩, ?_⟩, ?_⟩
    · have := h 0 h0
      unfold rAdv at this
      simp only [Bool.and_eq_true, inB, decide_eq_true_eq] at this
      by_cases hp : 0 < xs.getD 0 0
      · rw [decide_eq_true hp] at this; simp at this
      · omega
    · intro y hy
      obtain ⟨i, hi, rfl⟩ := List.getElem_of_mem hy
      have := h i (by omega)
      unfold rAdv at this
      simp only [Bool.and_eq_true] at this
      have h5 := this.1
      rwa [List.getD_eq_getElem?_getD, List.getElem?_eq_getElem hi] at h5
    · intro i hi
      have := h i hi
      unfold rAdv at this
      unfold advOk
      by_cases hp : 0 < xs.getD i 0
      · rw [decide_eq_true hp] at this ⊢; simp only [Bool.true_and, Bool.and_eq_true, Bool.not_eq_true', Bool.or_eq_false_iff] at this; have h5 := this.2.2; simp only [bne_eq_false_iff_eq] at h5; rw [h5]; rfl
      · rw [decide_eq_false hp]; simp
theorem adv_no {ps : List Pe} {xs : List Int} (hl : xs.length = ps.length) {k : Nat} (hk : k < ps.length) (h : rAdv ps xs k = false) : advB ps xs = false := by
  rw [adv_eq hl (by omega), List.all_eq_false]; exact ⟨k, List.mem_range.2 hk, by simp [h]⟩
theorem adv_yes {ps : List Pe} {xs : List Int} (hl : xs.length = ps.length) (h0 : 0 < ps.length) (h : ∀ k, k < ps.length → rAdv ps xs k = true) : advB ps xs = true := by
  rw [adv_eq hl h0, List.all_eq_true]; exact fun k hk => h k (List.mem_range.1 hk)
set_option maxHeartbeats 2000000 in
set_option maxRecDepth 20000 in
theorem refAdvances_c (s : Sv) (A : Option Addr) (n c : Nat) (xs : List Int) (hp9 : s.pn ≤ 9) (h0 : 0 < s.pn) (hn : n ≤ 1000000) (w : World) (hi : s.In w) (hA : SlOf inC 1 w A n xs) :
    Calls Tryz.prog 57 #[s.val, .slice A n c] w fun e w' => e = .returned (.bool (advB s.ps xs)) ∧ Below w.heap.size w w' := by
  have hpl : s.ps.length = s.pn := hi.ps.1
  have hxl := hA.1
  obtain ⟨pA, lA, pn, pc, ln, lc, ps, ls⟩ := s
  obtain ⟨hp, hl⟩ := hi
  simp only [Sv.val] at *
  have B1 := Lib.hid (newB (Below.refl w.heap.size w) (.cells #[.slice pA pn pc, .slice lA ln lc] 25))
  have HP := Lib.hid (hp.keep B1.out)
  have HX := Lib.hid (hA.keep B1.out)
  have F1 := (Has.new w 25 #[.slice pA pn pc, .slice lA ln lc]).cell
  clear hp hl hA
  by_cases hnp : n = pn
  · subst hnp
    have i1 : ((n : Int) != n) = false := by simp
    have HNo := Lib.hid fun (k : Nat) (hk : k < n) (h : rAdv ps xs k = false) => adv_no (ps := ps) (xs := xs) (by omega) (k := k) (by omega) h
    go_enter Tryz.func57, Tryz.ntmps57
    go_wp2
    generalize w.alloc (.cells #[.slice pA n pc, .slice lA ln lc] 25) = w1 at *
    go_loop [5] (fun i => ∃ k : Nat, k ≤ n ∧ i = .int .i64 k ∧ ∀ j, j < k → rAdv ps xs j = true) (fun i => n - (intOf i).toNat)
    case atStart => exact ⟨0, by omega, rfl, fun j hj => absurd hj (by omega)⟩
    case round =>
      obtain ⟨k, hk, rfl, hY⟩ := hrel
      have HY := Lib.hid hY
      clear hY
      by_cases hkn : k < n
      · have hkl : k < ps.length := by omega
        have hkx : k < xs.length := by omega
        have hx := List.getElem?_eq_getElem hkl
        have hy := List.getElem?_eq_getElem hkx
        obtain ⟨x, hxx⟩ : ∃ x, x = ps[k] := ⟨_, rfl⟩
        obtain ⟨y, hyy⟩ : ∃ y, y = xs[k] := ⟨_, rfl⟩
        rw [← hxx] at hx
        rw [← hyy] at hy
        obtain ⟨b, o, he⟩ := HP.out.addr (by omega)
        obtain ⟨b2, o2, he2⟩ := HX.out.addr (by omega)
        subst he he2
        have q1 : w1.cell? ⟨b, o + k * 3 + 2, none⟩ = some (.int .i64 x.f) := HP.out.range Pe.cs_len hx 2 _ rfl
        have q2 : w1.cell? ⟨b2, o2 + k, none⟩ = some (.int .i64 y) := by have := HX.out.range inC_len hy 0 _ rfl; simpa using this
        have HM := Lib.hid (show rAdv ps xs k = (inB y 0 100000 && !(decide (0 < y) && (k == 0 || x.f != 1))) by unfold rAdv; simp [List.getD_eq_getElem?_getD, hx, hy])
        have HCo := Lib.hid fun (W : World) => coins_c y W
        have HN := Lib.hid (HNo.out k hkn)
        have HS := Lib.hid (show rAdv ps xs k = true → ∀ j, j < k + 1 → rAdv ps xs j = true from fun h j hj => by
          rcases Nat.lt_succ_iff_lt_or_eq.1 hj with h' | rfl
          · exact HY.out j h'
          · exact h)
        generalize x.f = xf at *
        clear hx hxx hkl hy hyy hkx hxl hpl
        cases c1 : inB y 0 100000
        · have HE := Lib.hid (HN.out (by rw [HM.out, c1]; rfl))
          rw [c1] at HCo
          clear c1 HN HM HS
          go_wp2_with (go_at_call 83; refine (HCo.out _).mono ?_; rintro e w2 ⟨rfl, rfl⟩)
          exact bodyPost_ret (results_tmp rfl _ _ _) rfl ⟨by rw [HE.out]; rfl, B1.out⟩
        · by_cases c2 : 0 < y
          · by_cases k0 : k = 0
            · have HE := Lib.hid (HN.out (by rw [HM.out]; simp [k0, c2]))
              have e0 : ((k : Int) == 0) = true := by simp [k0]
              rw [c1] at HCo
              clear c1 HN HM HS k0
              go_wp2_with (go_at_call 83; refine (HCo.out _).mono ?_; rintro e w2 ⟨rfl, rfl⟩)
              exact bodyPost_ret (results_tmp rfl _ _ _) rfl ⟨by rw [HE.out]; rfl, B1.out⟩
            · have e0 : ((k : Int) == 0) = false := by simp; omega
              by_cases kf : xf = 1
              · have HY2 := Lib.hid (HS.out (by rw [HM.out, c1]; simp [k0, kf]))
                have e2 : (xf != 1) = false := by simp [kf]
                rw [c1] at HCo
                clear c1 HN HM HS k0 kf
                go_wp2_with (go_at_call 83; refine (HCo.out _).mono ?_; rintro e w2 ⟨rfl, rfl⟩)
                go_round
                case rel => exact ⟨k + 1, by omega, by go_num, HY2.out⟩
                case measure => first | (simp [intOf]; done) | (simp [intOf]; omega)
              · have HE := Lib.hid (HN.out (by rw [HM.out]; simp [kf, c2]))
                have e2 : (xf != 1) = true := by simp [kf]
                rw [c1] at HCo
                clear c1 HN HM HS k0 kf
                go_wp2_with (go_at_call 83; refine (HCo.out _).mono ?_; rintro e w2 ⟨rfl, rfl⟩)
                exact bodyPost_ret (results_tmp rfl _ _ _) rfl ⟨by rw [HE.out]; rfl, B1.out⟩
          · have HY2 := Lib.hid (HS.out (by rw [HM.out, c1]; simp [c2]))
            rw [c1] at HCo
            clear c1 HN HM HS
            go_wp2_with (go_at_call 83; refine (HCo.out _).mono ?_; rintro e w2 ⟨rfl, rfl⟩)
            go_round
            case rel => exact ⟨k + 1, by omega, by go_num, HY2.out⟩
            case measure => first | (simp [intOf]; done) | (simp [intOf]; omega)
      · have hke : k = n := by omega
        subst hke
        have HE := Lib.hid (adv_yes (ps := ps) (xs := xs) (by omega) (by omega) (by rw [hpl]; exact HY.out))
        go_wp2
        exact bodyPost_ret (results_tmp rfl _ _ _) rfl ⟨by rw [HE.out]; rfl, B1.out⟩
  · have HE := Lib.hid (show advB ps xs = false by unfold advB coinsB; rw [show decide (xs.length = ps.length) = false from decide_eq_false (by omega)]; rfl)
    have i1 : ((n : Int) != pn) = true := by rw [bne_iff_ne]; omega
    go_enter Tryz.func57, Tryz.ntmps57
    go_wp2
    exact bodyPost_ret (results_tmp rfl _ _ _) rfl ⟨by rw [HE.out]; rfl, B1.out⟩

theorem nextL_len (ps : List Pe) (ls : List La) (xs : List Int) : (nextL ps ls xs).length = ps.length := by simp [nextL]
theorem nextL_get {ps : List Pe} {ls : List La} {xs : List Int} {k : Nat} {e : En} {y : Int} (hk : k < ps.length) (he : (endsF ps ls)[k]? = some e) (hy : xs[k]? = some y) : (nextL ps ls xs)[k]? = some (e.w + y) := by
  unfold nextL
  rw [List.getElem?_map, List.getElem?_range hk]
  simp [List.getD_eq_getElem?_getD, he, hy]
theorem nextL_take {ps : List Pe} {ls : List La} {xs : List Int} {k : Nat} {e : En} {y : Int} (hk : k < ps.length) (he : (endsF ps ls)[k]? = some e) (hy : xs[k]? = some y) : (nextL ps ls xs).take (k + 1) = (nextL ps ls xs).take k ++ [e.w + y] := by
  have hl : k < (nextL ps ls xs).length := by rw [nextL_len]; exact hk
  rw [← List.take_append_getElem hl]
  congr 2
  have := nextL_get hk he hy
  rw [List.getElem?_eq_getElem hl] at this
  exact Option.some.inj this
set_option maxHeartbeats 2000000 in
set_option maxRecDepth 20000 in
theorem refNext_c (s : Sv) (hs : Seas s.ps s.ls) (A : Option Addr) (n c : Nat) (xs : List Int) (hadv : ∀ x ∈ xs, 0 ≤ x ∧ x ≤ 100000) (hn : n = s.pn) (w : World) (hi : s.In w) (hA : SlOf inC 1 w A n xs) :
    Calls Tryz.prog 58 #[s.val, .slice A n c] w (Gives eI w (nextL s.ps s.ls xs)) := by
  have hpl : s.ps.length = s.pn := hi.ps.1
  have hxl := hA.1
  have hp6 : s.pn ≤ 6 := by rw [← hpl]; exact hs.six
  have HSt := Lib.hid fun (W : World) (hb : Below w.heap.size w W) => refSettle_c s hs W (hi.keep hb)
  have HEn := Lib.hid (show (endsF s.ps s.ls).length = s.pn by rw [endsFLen, hpl])
  have HKa := Lib.hid fun (k : Nat) (hk : k < s.pn) => hs.keptAt (k := k) (by rw [hpl]; exact hk)
  have HTk := Lib.hid fun (k : Nat) (hk : k < s.pn) (e : En) (y : Int) (he : (endsF s.ps s.ls)[k]? = some e) (hy : xs[k]? = some y) => nextL_take (xs := xs) (by rw [hpl]; exact hk) he hy
  have HNl := Lib.hid (show (nextL s.ps s.ls xs).length = s.pn by rw [nextL_len, hpl])
  have HA := Lib.hid hA; have HAd := Lib.hid hadv
  obtain ⟨pA, lA, pn, pc, ln, lc, ps, ls⟩ := s
  simp only [Sv.val] at *
  clear hi hs hA hadv hpl
  subst hn
  obtain ⟨NL, hNL⟩ : ∃ t, t = nextL ps ls xs := ⟨_, rfl⟩
  rw [← hNL] at HTk HNl
  have HNq := Lib.hid hNL.symm
  clear hNL
  generalize endsF ps ls = EL at *
  have F0 := Lib.hid (Has.new w 25 #[.slice pA n pc, .slice lA ln lc])
  have B0 := Lib.hid (newB (Below.refl w.heap.size w) (.cells #[.slice pA n pc, .slice lA ln lc] 25))
  go_enter Tryz.func58, Tryz.ntmps58
  go_wp2_with (first
    | (refine wpList_load_row rfl 25 _ rfl w.heap.size rfl 25 _ (0, 0) _ F0.out Tryz.underlying25 rfl (by kernel_rfl) ?_)
    | (go_at_call 32; refine (HSt.out _ B0.out).mono ?_; rintro e w2 ⟨v2, rfl, ho, hb⟩; have B2 := Lib.hid (nextB B0.out hb); obtain ⟨A3, c3, rfl, hs3, _⟩ := ho.sl; rw [HEn.out] at hs3 ⊢; have S3 := Lib.hid hs3; clear hb ho hs3))
  have HA2 := Lib.hid (HA.out.keep B2.out)
  go_loopw [7, 8] (fun v i wr => ∃ k : Nat, k ≤ n ∧ i = .int .i64 k ∧ Own eI w2.heap.size v (NL.take k) wr ∧ Below w2.heap.size w2 wr) (fun _ i _ => n - (intOf i).toNat)
  case atStart => exact ⟨0, by omega, rfl, by simpa using Own.nil eI w2.heap.size w2, Below.refl _ _⟩
  case round =>
    obtain ⟨k, hk, rfl, hO, hB⟩ := hrel
    have HB := Lib.hid hB; have HO := Lib.hid hO
    clear hB hO
    by_cases hkn : k < n
    · obtain ⟨x, e, cc, hx, he, hc, r1, r2, r3, r4, r5, r6, r7, r8⟩ := HKa.out k hkn
      have hkx : k < xs.length := by omega
      have hy := List.getElem?_eq_getElem hkx
      obtain ⟨y, hyy⟩ : ∃ y, y = xs[k] := ⟨_, rfl⟩
      rw [← hyy] at hy
      have hyb := HAd.out y (List.mem_of_getElem? hy)
      have HT := Lib.hid (HTk.out k hkn e y he hy)
      have HLn := Lib.hid (show (NL.take k).length ≤ 20000000 by rw [List.length_take]; omega)
      obtain ⟨b2, o2, ha2⟩ := HA2.out.addr (by omega)
      obtain ⟨b3, o3, ha3⟩ := S3.out.addr (by omega)
      subst ha2 ha3
      have M := Lib.hid fun (W : World) (hb : Below wr.heap.size wr W) => (show W.cell? ⟨b2, o2 + k, none⟩ = some (.int .i64 y) ∧ W.cell? ⟨b3, o3 + k * 5 + 3, none⟩ = some (.int .i64 e.w) from by
        have h1 := ((HA2.out.keep HB.out).keep hb).range inC_len hy 0 _ rfl
        exact ⟨by simpa using h1, (((S3.out.keep HB.out).keep hb).range En.cs_len he) 3 _ rfl⟩)
      unfold FewE at r6
      obtain ⟨_, _, _, _, _, _, ew0, ew1, _⟩ := r6
      clear hx he hc hy hyy r1 r2 r3 r4 r5 r7 r8
      generalize e.w = ew at *
      go_wp2
      apply wp_loose 12 [.v _, .v _, .v _, .v _, .v _, .v _, .v _, .v _, .v _, .v _, .v _, .r (fun v w' => ∃ q, v = .slice (some ⟨q, 0, none⟩) 1 1 ∧ Has w' q 3 #[.int .i64 (ew + y)])] (by kernel_rfl) (by kernel_rfl) (by kernel_rfl) (by decide) rfl
      intro K hK
      iterate 10 (apply OblS.val (by kernel_rfl); (intro w' hb _; obtain ⟨q1, q2⟩ := M.out w' hb; go_simp; rfl))
      apply OblS.val (v := .int .i64 (ew + y)) (by kernel_rfl)
      · intro w' hb _; go_simp; rw [IntKind.wrap_i64]; omega
      refine OblS.run (by rintro v a b ⟨q, e, h⟩ hb; exact ⟨q, e, h.after hb⟩) (by kernel_rfl) (fun w' hb _ => ⟨_, _, (by kernel_rfl), ⟨w'.heap.size, rfl, Has.new w' 3 _⟩, newB (Below.refl _ _) _⟩) ?_
      intro v4
      apply OblS.nil
      apply hK
      intro w4 hb hH
      obtain ⟨q, rfl, hq⟩ := hH _ (List.mem_cons_self ..)
      have HQ := Lib.hid hq
      clear hH hK K hq
      simp only [Act.put, List.setIfInBounds_toArray, List.set_cons_zero, List.set_cons_succ, List.drop_succ_cons, List.drop_zero]
      have HB4 := Lib.hid (nextB HB.out hb); have HO4 := Lib.hid (HO.out.keep hb)
      clear hb
      go_wp2_with (at_builtin; refine El.app1 eI_ok rfl _ _ rfl w2.heap.size u7 (NL.take k) rfl HO4.out HLn.out q (ew + y) rfl HQ.out HB4.out.size ?_; intro v5 w5 ho5 hb5 _; have O5 := Lib.hid ho5; have B5 := Lib.hid (HB4.out.trans hb5); clear ho5 hb5)
      go_roundw
      case rel => exact ⟨k + 1, by omega, by go_num, by rw [HT.out]; exact O5.out, B5.out⟩
      case measure => first | (simp [intOf]; done) | (simp [intOf]; omega)
    · have hke : k = n := by omega
      subst hke
      have HE := Lib.hid (show NL.take k = NL from List.take_of_length_le (by rw [HNl.out]; exact Nat.le_refl _))
      rw [HE.out] at HO
      go_wp2
      exact bodyPost_ret (results_tmp rfl _ _ _) rfl ⟨_, rfl, by rw [HNq.out]; exact HO.out.lower B2.out.size, nextB B2.out HB.out⟩
end Go.Proofs
namespace Go.Proofs
open Go.RowKit Go.Shelf
attribute [local go_sem ↓] Go.wp_at_zero Go.wp_at_succ

set_option maxHeartbeats 4000000 in
set_option maxRecDepth 20000 in
theorem shareNexts_walk (s : Sv) (A : Option Addr) (n c : Nat) (xs : List Int) (w : World) (hi : s.In w) (hA : SlOf inC 1 w A n xs) (hI : ItoaAll w) : Calls Tryz.prog 15 #[s.val, .slice A n c] w fun e w' => e = .returned (.bool true) ∧ Below w.heap.size w w' := by
  have HSh := Lib.hid fun (W : World) => short_c s W
  have HK := Lib.hid fun (W : World) (hb : Below w.heap.size w W) => knownLaw_c W (hI.keep hb)
  cases h0 : shortB s
  · rw [h0] at HSh
    clear h0 hi hI hA
    obtain ⟨pA, lA, pn, pc, ln, lc, ps, ls⟩ := s
    simp only [Sv.val] at *
    have EE := Lib.hid (SBx.start w #[.slice pA pn pc, .slice lA ln lc])
    go_enter Tryz.func15, Tryz.ntmps15
    go_wp2_with (first
      | (refine wpList_load_row rfl 25 _ rfl w.heap.size rfl 25 _ (0, 0) _ EE.out.box Tryz.underlying25 rfl (by kernel_rfl) ?_)
      | (go_at_call 23; refine (HSh.out _).mono ?_; rintro e w1 ⟨rfl, hb⟩; replace EE := Lib.hid (EE.out.keep hb); clear hb)
      | (go_at_call 24; refine (HK.out _ EE.out.below).mono ?_; rintro e w2 ⟨rfl, hb⟩; replace EE := Lib.hid (EE.out.keep hb); clear hb))
    exact bodyPost_ret (results_tmp rfl _ _ _) rfl ⟨rfl, EE.out.below⟩
  · have hsm : s.pn ≤ 9 ∧ s.ln ≤ 9 := by simpa [shortB] using h0
    rw [h0] at HSh
    by_cases h9 : 9 < n
    · have h9' : (9 : Int) < (n : Int) := by omega
      clear h0 hi hI hA hsm
      obtain ⟨pA, lA, pn, pc, ln, lc, ps, ls⟩ := s
      simp only [Sv.val] at *
      have EE := Lib.hid (SBx.start w #[.slice pA pn pc, .slice lA ln lc])
      go_enter Tryz.func15, Tryz.ntmps15
      go_wp2_with (first
        | (refine wpList_load_row rfl 25 _ rfl w.heap.size rfl 25 _ (0, 0) _ EE.out.box Tryz.underlying25 rfl (by kernel_rfl) ?_)
        | (go_at_call 23; refine (HSh.out _).mono ?_; rintro e w1 ⟨rfl, hb⟩; replace EE := Lib.hid (EE.out.keep hb); clear hb)
        | (go_at_call 24; refine (HK.out _ EE.out.below).mono ?_; rintro e w2 ⟨rfl, hb⟩; replace EE := Lib.hid (EE.out.keep hb); clear hb))
      exact bodyPost_ret (results_tmp rfl _ _ _) rfl ⟨rfl, EE.out.below⟩
    · have h9' : ¬ (9 : Int) < (n : Int) := by omega
      have HSe := Lib.hid fun (W : World) (hb : Below w.heap.size w W) => refSeason_c s (by omega) (by omega) W (hi.keep hb)
      cases h1 : seasonB s.ps s.ls
      · have HNx := Lib.hid fun (W : World) (hb : Below w.heap.size w W) => next_no s (by omega) (by omega) A n c xs (by omega) (by simp [nextB', h1]) W (hi.keep hb) (hA.keep hb)
        rw [h1] at HSe
        clear h0 h1 hi hI hA hsm
        obtain ⟨pA, lA, pn, pc, ln, lc, ps, ls⟩ := s
        simp only [Sv.val] at *
        have EE := Lib.hid (SBx.start w #[.slice pA pn pc, .slice lA ln lc])
        have cb := EE.out.box.cell
        go_enter Tryz.func15, Tryz.ntmps15
        go_wp2_with (first
          | (refine wpList_load_row rfl 25 _ rfl w.heap.size rfl 25 _ (0, 0) _ EE.out.box Tryz.underlying25 rfl (by kernel_rfl) ?_)
          | (go_at_call 23; refine (HSh.out _).mono ?_; rintro e w1 ⟨rfl, hb⟩; replace EE := Lib.hid (EE.out.keep hb); have cb := EE.out.box.cell; clear hb)
          | (go_at_call 56; refine (HNx.out _ EE.out.below).mono ?_; rintro e w2 ⟨rfl, hb⟩; replace EE := Lib.hid (EE.out.keep hb); have cb := EE.out.box.cell; clear hb)
          | (go_at_call 27; refine (HSe.out _ EE.out.below).mono ?_; rintro e w2 ⟨rfl, hb⟩; replace EE := Lib.hid (EE.out.keep hb); have cb := EE.out.box.cell; clear hb)
          | (go_at_call 24; refine (HK.out _ EE.out.below).mono ?_; rintro e w2 ⟨rfl, hb⟩; replace EE := Lib.hid (EE.out.keep hb); clear hb))
        exact bodyPost_ret (results_tmp rfl _ _ _) rfl ⟨rfl, EE.out.below⟩
      · have hs := (seas_iff _ _).1 h1
        have hpl : s.ps.length = s.pn := hi.ps.1
        have hp6 : s.pn ≤ 6 := by rw [← hpl]; exact hs.six
        have hp2 : 2 ≤ s.pn := by rw [← hpl]; exact hs.two
        have HAd := Lib.hid fun (W : World) (hb : Below w.heap.size w W) => refAdvances_c s A n c xs (by omega) (by omega) (by omega) W (hi.keep hb) (hA.keep hb)
        rw [h1] at HSe
        cases h2 : advB s.ps xs
        · have HNx := Lib.hid fun (W : World) (hb : Below w.heap.size w W) => next_no s (by omega) (by omega) A n c xs (by omega) (by simp [nextB', h2]) W (hi.keep hb) (hA.keep hb)
          rw [h2] at HAd
          clear h0 h1 h2 hi hI hA hsm hs hpl
          obtain ⟨pA, lA, pn, pc, ln, lc, ps, ls⟩ := s
          simp only [Sv.val] at *
          have EE := Lib.hid (SBx.start w #[.slice pA pn pc, .slice lA ln lc])
          have cb := EE.out.box.cell
          go_enter Tryz.func15, Tryz.ntmps15
          go_wp2_with (first
            | (refine wpList_load_row rfl 25 _ rfl w.heap.size rfl 25 _ (0, 0) _ EE.out.box Tryz.underlying25 rfl (by kernel_rfl) ?_)
            | (go_at_call 23; refine (HSh.out _).mono ?_; rintro e w1 ⟨rfl, hb⟩; replace EE := Lib.hid (EE.out.keep hb); have cb := EE.out.box.cell; clear hb)
            | (go_at_call 56; refine (HNx.out _ EE.out.below).mono ?_; rintro e w2 ⟨rfl, hb⟩; replace EE := Lib.hid (EE.out.keep hb); have cb := EE.out.box.cell; clear hb)
            | (go_at_call 27; refine (HSe.out _ EE.out.below).mono ?_; rintro e w2 ⟨rfl, hb⟩; replace EE := Lib.hid (EE.out.keep hb); have cb := EE.out.box.cell; clear hb)
            | (go_at_call 57; refine (HAd.out _ EE.out.below).mono ?_; rintro e w2 ⟨rfl, hb⟩; replace EE := Lib.hid (EE.out.keep hb); have cb := EE.out.box.cell; clear hb)
            | (go_at_call 24; refine (HK.out _ EE.out.below).mono ?_; rintro e w2 ⟨rfl, hb⟩; replace EE := Lib.hid (EE.out.keep hb); clear hb))
          exact bodyPost_ret (results_tmp rfl _ _ _) rfl ⟨rfl, EE.out.below⟩
        · have hcb : coinsB s.ps.length xs = true := by simp only [advB, Bool.and_eq_true] at h2; exact h2.1
          obtain ⟨hxl, _, hxb⟩ := coinsB_ok hcb
          have hnp : n = s.pn := by rw [← hA.1, hxl, hpl]
          have HNx := Lib.hid fun (W : World) (hb : Below w.heap.size w W) => next_ok s A n c xs (by simp [nextB', h1, h2]) W (hi.keep hb) (hA.keep hb)
          have HRn := Lib.hid fun (W : World) (hb : Below w.heap.size w W) => refNext_c s hs A n c xs hxb hnp W (hi.keep hb) (hA.keep hb)
          have HSt := Lib.hid fun (W : World) (hb : Below w.heap.size w W) => settle_ok s hs W (hi.keep hb)
          have HFw := Lib.hid fun (A : Option Addr) (c : Nat) (W : World) (h : SlOf En.cs 5 W A s.pn (endsF s.ps s.ls)) => few_c A s.pn c (endsF s.ps s.ls) (by omega) (fun k x hx => hs.few' hx) W h
          have HEn := Lib.hid (show (endsF s.ps s.ls).length = s.pn by rw [endsFLen, hpl])
          have HNn := Lib.hid (show (nextL s.ps s.ls xs).length = s.pn by rw [nextL_len, hpl])
          have HKa := Lib.hid fun (k : Nat) (hk : k < s.pn) => (show ∃ e y, (endsF s.ps s.ls)[k]? = some e ∧ xs[k]? = some y ∧ (nextL s.ps s.ls xs)[k]? = some (e.w + y) ∧ 0 ≤ e.w ∧ e.w ≤ 10000000 ∧ 0 ≤ y ∧ y ≤ 100000 from by
            have hkl : k < s.ps.length := by rw [hpl]; exact hk
            have hkx : k < xs.length := by rw [hxl]; exact hkl
            obtain ⟨x, e, cc, _, he, _, _, _, _, _, _, hf, _⟩ := hs.keptAt hkl
            have hy := List.getElem?_eq_getElem hkx
            have hb := hxb _ (List.getElem_mem hkx)
            unfold FewE at hf
            exact ⟨e, _, he, hy, nextL_get hkl he hy, by omega, by omega, hb.1, hb.2⟩)
          rw [h2] at HAd
          have HA := Lib.hid hA
          clear h0 h1 h2 hi hI hA hsm hs hpl hcb hxl hxb
          subst hnp
          obtain ⟨pA, lA, pn, pc, ln, lc, ps, ls⟩ := s
          simp only [Sv.val] at *
          generalize nextL ps ls xs = NL at *
          generalize endsF ps ls = EL at *
          have EE := Lib.hid (SBx.start w #[.slice pA pn pc, .slice lA ln lc])
          have cb := EE.out.box.cell
          have HNl := Lib.hid (show NL.length ≤ 1000000 by rw [HNn.out]; omega)
          go_enter Tryz.func15, Tryz.ntmps15
          go_wp2_with (first
            | (refine wpList_load_row rfl 25 _ rfl w.heap.size rfl 25 _ (0, 0) _ EE.out.box Tryz.underlying25 rfl (by kernel_rfl) ?_)
            | (go_at_call 23; refine (HSh.out _).mono ?_; rintro e w1 ⟨rfl, hb⟩; replace EE := Lib.hid (EE.out.keep hb); have cb := EE.out.box.cell; clear hb)
            | (go_at_call 56; refine (HNx.out _ EE.out.below).mono ?_; rintro e w2 ⟨v2, rfl, ho, hb⟩; replace EE := Lib.hid (EE.out.keep hb); have cb := EE.out.box.cell; obtain ⟨A2, c2, rfl, hs2, _⟩ := ho.sl; rw [HNn.out] at hs2 ⊢; have S2 := Lib.hid hs2; clear hb ho hs2)
            | (go_at_call 27; refine (HSe.out _ EE.out.below).mono ?_; rintro e w3 ⟨rfl, hb⟩; replace EE := Lib.hid (EE.out.keep hb); have cb := EE.out.box.cell; replace S2 := Lib.hid (S2.out.keep hb); clear hb)
            | (go_at_call 57; refine (HAd.out _ EE.out.below).mono ?_; rintro e w4 ⟨rfl, hb⟩; replace EE := Lib.hid (EE.out.keep hb); have cb := EE.out.box.cell; replace S2 := Lib.hid (S2.out.keep hb); clear hb)
            | (go_at_call 31; refine (HSt.out _ EE.out.below).mono ?_; rintro e w5 ⟨v5, rfl, ho, hb⟩; replace EE := Lib.hid (EE.out.keep hb); have cb := EE.out.box.cell; replace S2 := Lib.hid (S2.out.keep hb); obtain ⟨A5, c5, rfl, hs5, _⟩ := ho.sl; rw [HEn.out] at hs5 ⊢; have S5 := Lib.hid hs5; clear hb ho hs5)
            | (go_at_call 34; refine (HFw.out A5 c5 _ S5.out).mono ?_; rintro e w6 ⟨rfl, hb⟩; replace EE := Lib.hid (EE.out.keep hb); have cb := EE.out.box.cell; replace S2 := Lib.hid (S2.out.keep hb); replace S5 := Lib.hid (S5.out.keep hb); clear hb)
            | (go_at_call 58; refine (HRn.out _ EE.out.below).mono ?_; rintro e w7 ⟨v7, rfl, ho, hb⟩; replace EE := Lib.hid (EE.out.keep hb); have cb := EE.out.box.cell; replace S2 := Lib.hid (S2.out.keep hb); replace S5 := Lib.hid (S5.out.keep hb); obtain ⟨A7, c7, rfl, hs7, _⟩ := ho.sl; rw [HNn.out] at hs7 ⊢; have S7 := Lib.hid hs7; clear hb ho hs7)
            | (go_at_call 29; refine (same_c A2 A7 pn pn c2 c7 NL NL (by omega) _ S2.out S7.out).mono ?_; rintro e w8 ⟨rfl, hb⟩; rw [decide_eq_true (rfl : NL = NL)]; replace EE := Lib.hid (EE.out.keep hb); replace S2 := Lib.hid (S2.out.keep hb); replace S5 := Lib.hid (S5.out.keep hb); clear hb))
          have HA8 := Lib.hid (HA.out.keep EE.out.below)
          go_loopw [10] (fun i wr => ∃ k : Nat, k ≤ pn ∧ i = .int .i64 k ∧ Below w8.heap.size w8 wr) (fun i _ => pn - (intOf i).toNat)
          case atStart => exact ⟨0, by omega, rfl, Below.refl _ _⟩
          case round =>
            obtain ⟨k, hk, rfl, hB⟩ := hrel
            have HB := Lib.hid hB
            clear hB
            by_cases hkn : k < pn
            · obtain ⟨e, y, he, hy, hz, b1, b2, b3, b4⟩ := HKa.out k hkn
              obtain ⟨pb, po, ha⟩ := HA8.out.addr (by omega)
              obtain ⟨p2, o2, ha2⟩ := S2.out.addr (by omega)
              obtain ⟨p5, o5, ha5⟩ := S5.out.addr (by omega)
              subst ha ha2 ha5
              have M := Lib.hid fun (W : World) (hb : Below wr.heap.size wr W) => (show W.cell? ⟨pb, po + k, none⟩ = some (.int .i64 y) ∧ W.cell? ⟨p2, o2 + k, none⟩ = some (.int .i64 (e.w + y)) ∧ W.cell? ⟨p5, o5 + k * 5 + 3, none⟩ = some (.int .i64 e.w) from by
                have h1 := ((HA8.out.keep HB.out).keep hb).range inC_len hy 0 _ rfl
                have h2 := ((S2.out.keep HB.out).keep hb).range inC_len hz 0 _ rfl
                exact ⟨by simpa using h1, by simpa using h2, (((S5.out.keep HB.out).keep hb).range En.cs_len he) 3 _ rfl⟩)
              clear he hy hz
              generalize e.w = ew at *
              go_wp2
              apply wp_loose 15 [.v _, .v _, .v _, .v _, .v _, .v _, .v _, .v _, .v _, .v _, .v _, .v _, .v _, .v _, .v _] (by kernel_rfl) (by kernel_rfl) (by kernel_rfl) (by decide) rfl
              intro K hK
              iterate 13 (apply OblS.val (by kernel_rfl); (intro w' hb _; obtain ⟨q1, q2, q3⟩ := M.out w' hb; go_simp; rfl))
              apply OblS.val (v := .int .i64 (ew + y)) (by kernel_rfl)
              · intro w' hb _; go_simp; rw [IntKind.wrap_i64]; omega
              apply OblS.val (v := .bool false) (by kernel_rfl)
              · intro w' hb _; go_simp
              apply OblS.nil
              apply hK
              intro w9 hb hH
              clear hH hK K
              simp only [Act.put, List.setIfInBounds_toArray, List.set_cons_zero, List.set_cons_succ, List.drop_succ_cons, List.drop_zero]
              have HB9 := Lib.hid (nextB HB.out hb)
              clear hb
              go_wp2
              go_roundw
              case rel => exact ⟨k + 1, by omega, by go_num, HB9.out⟩
              case measure => first | (simp [intOf]; done) | (simp [intOf]; omega)
            · have hke : k = pn := by omega
              subst hke
              have EB := Lib.hid (EE.out.keep HB.out)
              go_wp2_with (go_at_call 24; refine (HK.out _ EB.out.below).mono ?_; rintro e w9 ⟨rfl, hb⟩; replace EB := Lib.hid (EB.out.keep hb); clear hb)
              exact bodyPost_ret (results_tmp rfl _ _ _) rfl ⟨rfl, EB.out.below⟩
end Go.Proofs
namespace Go.Proofs.YtplhaohcmhepbaaGreatDoor.shareNexts
open Go.ChangeShapes Go.WideShapes Go.ChangeAt Go.RowKit Go.Proofs

theorem own : ownKnob Tryz.prog.godebug = none := f_own
theorem laidOut : laidOutB Tryz.prog = true := f_laid
set_option maxRecDepth 100000 in
theorem lifted (os : Os) (started : os.Started) (H : Type) (enc : TypeId × Value → H) :
    ReturnsInHanded {} Tryz.checked os 15 .any (fun w args => (Rows.shareNextsSpec.pre enc Tryz.prog Tryz.f15 [] false w args ∧ laidMetH Tryz.prog Rows.shareNextsRow.laid w) ∧ sizedMet enc Tryz.prog Tryz.f15 (OpenSpec.ofChange Rows.shareNextsSpec) false w args)
      (Rows.shareNextsSpec.post enc Tryz.prog Tryz.f15 false true false false) := by
  refine returnsInHanded_of_change_and (C := Tryz.checked) (X := fun w _ => laidMetH Tryz.prog Rows.shareNextsRow.laid w) (fun _ _ _ hh h => h.of_heap hh) own started (by kernel_rfl) Tryz.func15
    (ChangeSpec.witness_shaped (enc := enc) (C := Tryz.checked) (os := os) (X := fun w _ => laidMetH Tryz.prog Rows.shareNextsRow.laid w) false (World.laidAll Tryz.prog os Rows.shareNextsRow.laid) #[.agg #[.slice none 0 0, .slice none 0 0], .slice none 0 0] 8 (World.laidAll_os _ _ _) (World.shaped_of_ZipB (by kernel_rfl) (by kernel_rfl)) (by kernel_rfl) (by kernel_rfl) (by kernel_rfl) (by rw [MakeChecks.laidMetH_plain _ _ _ (by kernel_rfl)]; exact laidMet_laidAll _ (by kernel_rfl) (by kernel_rfl))) ?_
  intro W base args ds gs before hval0 hW _ _ hL _
  have hval : ∀ (j : Nat) t v, Tryz.f15.params[j]? = some t → args[j]? = some v → Value.okWide Tryz.prog W .any base t v := hval0
  have hW' := hW
  obtain ⟨p, q, hA0, hV, rfl, hfz, hnd⟩ := hW
  have hA : DataW.TrodAll enc Tryz.prog W 0 (fun _ => true) true Tryz.f15.params.toList args.toList ds p := hA0
  rw [Tryz.params15] at hA hval
  obtain ⟨v0, vs0, d0, ds0, p0, q0, hargs, rfl, rfl, h0, r0⟩ := trodAll_cons hA
  obtain ⟨v1, vs1, d1, ds1, p1, q1, rfl, rfl, rfl, h1, r1⟩ := trodAll_cons r0
  obtain ⟨rfl, rfl, rfl⟩ := trodAll_nil r1
  obtain rfl : args = #[v0, v1] := by cases args; simp_all
  obtain ⟨rfl, rfl⟩ := trodVars_none hV
  have k0 := h0
  have lt0 : ∀ x ∈ p0, x.block < W.heap.size := by obtain ⟨m, hm⟩ := k0; exact DataW.trod_lt m _ _ _ hm
  have u0 := hval 0 25 v0 rfl rfl
  obtain ⟨s0, rfl, hd0, wp0, wl0, hx0⟩ := arg_season u0 h0
  have k1 := h1
  have lt1 : ∀ x ∈ p1, x.block < W.heap.size := by obtain ⟨m, hm⟩ := k1; exact DataW.trod_lt m _ _ _ hm
  have u1 := hval 1 30 v1 rfl rfl
  obtain ⟨A1, n1, c1, l1, rfl, hd1, hc1, hm1, hA1⟩ := arg_ints u1 h1
  have htab := tab_of_laid (show laidMet Tryz.prog Rows.shareNextsRow.laid W from hL)
  clear hA0 hval0
  simp only [List.append_nil] at hW'
  refine (shareNexts_walk s0 A1 n1 c1 l1 W hd0 hd1 (itoa_tab htab)).mono fun e W' ⟨he, bel⟩ => ?_
  subst he
  exact ⟨_, rfl, _, _, _, [], _, [], hW', trodAll_mk1 (shut_bool Tryz.underlying4 _), (trodAll_cons_mk (Below.trod laidOut (by kernel_rfl) (of_decide_eq_true (by kernel_rfl)) k0 bel lt0) (trodAll_cons_mk (Below.trod laidOut (by kernel_rfl) (of_decide_eq_true (by kernel_rfl)) k1 bel lt1) trodAll_mk0)), rfl, bel.frame _, fun h => by cases h⟩

theorem both_true {a b : Bool} (h : a = true) (g : b = true) : (a && b) = true := by rw [h, g]; rfl
set_option maxHeartbeats 16000000 in
theorem closed : joinedFacts Tryz.prog 15 Tryz.f15 Rows.shareNextsSpec Rows.shareNextsRow = true := by
  unfold joinedFacts
  repeat' (with_reducible refine both_true ?_ ?_)
  all_goals first | (with_reducible exact f_laid) | (with_reducible exact f_rowed) | (with_reducible exact f_heard) | (with_reducible exact f_enter) | (with_reducible rw [f_keys]; as_aux_lemma => kernel_rfl) | (with_reducible rw [f_lift]; as_aux_lemma => kernel_rfl) | (with_reducible rw [f_make]; as_aux_lemma => kernel_rfl) | (as_aux_lemma => kernel_rfl)

theorem row_holds : Rows.ShareNextsSaid :=
  OpenClaim.holds_of_wide 15 Tryz.f15 rfl rfl rfl rfl rfl rfl rfl ⟨rfl, rfl, rfl, rfl, rfl⟩ rfl rfl rfl rfl rfl (by as_aux_lemma => kernel_rfl) Tryz.func15 closed
    (of_decide_eq_true (by kernel_rfl)) (by unfold Func.isWrapper; first | (rw [if_pos (by decide +kernel)]; kernel_rfl) | (rw [if_neg (by decide +kernel)]; exact ⟨rfl, rfl⟩))
    (fun os started H enc _ => lifted os started H enc)

set_option maxHeartbeats 8000000 in
theorem shareNexts_holds : Rows.ShareNextsCardSaid :=
  Claim7.holds_tied_plain_at .later [] [.data, .data, .data, .data, .pinned] true (true, "7e62b5f23aa16cc2579dbf745918b39c2216085a6a4405f0c28cfd6d2389e0e4") true
    row_holds (fun _ h => by cases h) (by as_aux_lemma => kernel_rfl) (fun _ h => by cases h) shareNexts_row_tie rfl ⟨rfl, rfl⟩ (by as_aux_lemma => kernel_rfl) rfl
    (fun f fn hf hfn => by
      obtain rfl : f = 15 := Option.some.inj ((show Tryz.prog.funcNamed "bathyal/bathyallaw05.ShareNexts" = some 15 by kernel_rfl).symm.trans hf) |>.symm
      obtain rfl : fn = Tryz.f15 := (Option.some.inj (Tryz.func15.symm.trans hfn)).symm
      exact ⟨by kernel_rfl, fun j t ht => by
        rw [Tryz.params15] at ht
        have hm : t ∈ [25, 30] := by simpa using Array.mem_of_getElem? ht
        have hall : ([25, 30].all fun u => !Tryz.prog.wantsStandIn u) = true := by kernel_rfl
        exact (show Tryz.prog.wantsStandIn t = false by simpa using List.all_eq_true.1 hall t hm)⟩)
    (by as_aux_lemma => kernel_rfl)
#print axioms shareNexts_holds
end Go.Proofs.YtplhaohcmhepbaaGreatDoor.shareNexts
