/-
  Contracts of the specification's Season, Common and Claims hold at every season of moderate size.
-/
import Derived.Test.YtplhaohcmhepbaaGreatDoorP9
import Derived.Test.YtplhaohcmhepbaaGreatDoorP2
import Derived.Test.YtplhaohcmhepbaaGreatDoorP6
namespace Go.Proofs
open Go.RowKit Go.Shelf
attribute [local go_sem ↓] Go.wp_at_zero Go.wp_at_succ

theorem refNet_c (g c k : Int) (hg : 0 ≤ g ∧ g ≤ 10000000000) (hc : 0 ≤ c ∧ c ≤ 10000000000) (w : World) : Calls Tryz.prog 106 #[.agg #[.int .i64 g, .int .i64 c, .int .i64 k]] w fun e w' => e = .returned (.int .i64 (netI ⟨g, c, k⟩)) ∧ Below w.heap.size w w' := by
  obtain ⟨g0, g1⟩ := hg; obtain ⟨c0, c1⟩ := hc
  go_enter Tryz.func106, Tryz.ntmps106
  go_wp2
  all_goals
    go_ret
    refine ⟨ret_i ?_, newB (Below.refl _ _) _⟩
    simp only [netI]
    omega
theorem refDeficit_c (g c k : Int) (hg : 0 ≤ g ∧ g ≤ 10000000000) (hc : 0 ≤ c ∧ c ≤ 10000000000) (w : World) : Calls Tryz.prog 92 #[.agg #[.int .i64 g, .int .i64 c, .int .i64 k]] w fun e w' => e = .returned (.int .i64 (defI ⟨g, c, k⟩)) ∧ Below w.heap.size w w' := by
  obtain ⟨g0, g1⟩ := hg; obtain ⟨c0, c1⟩ := hc
  go_enter Tryz.func92, Tryz.ntmps92
  go_wp2
  all_goals
    go_ret
    refine ⟨ret_i ?_, newB (Below.refl _ _) _⟩
    simp only [defI]
    omega
theorem coins_c (n : Int) (w : World) : Calls Tryz.prog 83 #[.int .i64 n] w fun e w' => e = .returned (.bool (inB n 0 100000)) ∧ w = w' := by
  have HI := Lib.hid fun (W : World) => refIn_c n 0 100000 W
  go_enter Tryz.func83, Tryz.ntmps83
  go_wp2_with (go_at_call 82; refine (HI.out _).mono ?_; rintro e w1 ⟨rfl, rfl⟩)
  exact bodyPost_ret (results_tmp rfl _ _ _) rfl ⟨rfl, rfl⟩
theorem refSet_c (s : Int) (n : Nat) (hn : n ≤ 40) (w : World) : Calls Tryz.prog 84 #[.int .i64 s, .int .i64 n] w fun e w' => e = .returned (.bool (inB s 0 (2 ^ n - 1))) ∧ w = w' := by
  have HI := Lib.hid fun (W : World) => refIn_c s 0 (2 ^ n - 1) W
  have HP := Lib.hid fun (W : World) => power_c n hn W
  have hp := pow_bd n hn
  generalize (2 : Int) ^ n = p at *
  have e1 : wrap64 (p - 1) = p - 1 := w64 (by omega) (by omega)
  go_enter Tryz.func84, Tryz.ntmps84
  go_wp2_with (first
    | (go_at_call 93; refine (HP.out _).mono ?_; rintro e w1 ⟨rfl, rfl⟩)
    | (go_at_call 82; refine (HI.out _).mono ?_; rintro e w1 ⟨rfl, rfl⟩))
  exact bodyPost_ret (results_tmp rfl _ _ _) rfl ⟨rfl, rfl⟩
/-- The greatest common divisor. -/
theorem refDivisor_c (a b : Int) (ha : 1 ≤ a ∧ a ≤ 1000000000000) (hb : 0 ≤ b ∧ b ≤ 1000000000000) (w : World) : Calls Tryz.prog 86 #[.int .i64 a, .int .i64 b] w fun e w' => e = .returned (.int .i64 (Int.gcd a b : Int)) ∧ Below w.heap.size w w' := by
  obtain ⟨g, hg⟩ : ∃ g, g = Int.gcd a b := ⟨_, rfl⟩
  rw [← hg]
  have HG0 := Lib.hid hg
  clear hg
  go_enter Tryz.func86, Tryz.ntmps86
  go_wp2
  go_loopw [0, 1] (fun u v wr => ∃ x y : Int, u = .int .i64 x ∧ v = .int .i64 y ∧ 0 ≤ x ∧ x ≤ 1000000000000 ∧ 0 ≤ y ∧ y ≤ 1000000000000 ∧ Int.gcd x y = g ∧ Below w.heap.size w wr) (fun _ v _ => (intOf v).toNat)
  case atStart => exact ⟨a, b, rfl, rfl, by omega, by omega, by omega, by omega, HG0.out.symm, Below.refl _ _⟩
  case round =>
    obtain ⟨x, y, rfl, rfl, hx0, hx1, hy0, hy1, hgg, hB⟩ := hrel
    have HB := Lib.hid hB
    clear hB
    by_cases hy : 0 < y
    · have h1 := gcd_step x y hx0 hy
      have h2 := tmod_bd x y hx0 hy
      have h3 : ¬ y = 0 := by omega
      have h4 : ¬ y = -1 := by omega
      have HG2 := Lib.hid (h1.trans hgg)
      have tw : IntKind.i64.wrap (Int.tmod x y) = Int.tmod x y := by rw [IntKind.wrap_i64]; omega
      have tw2 : wrap64 (Int.tmod x y) = Int.tmod x y := w64 (by omega) (by omega)
      clear h1 hgg
      go_wp2
      refine wp_free 6 (by kernel_rfl) (by kernel_rfl) (by kernel_rfl) (by decide) ?_
      intro K hK
      repeat (apply Obl.val (by decide) (by kernel_rfl); (intro w' hb; go_simp; rfl))
      apply Obl.nil
      apply hK
      intro w2 hb
      simp only [Act.put, List.setIfInBounds_toArray, List.set_cons_zero, List.set_cons_succ, List.drop_succ_cons, List.drop_zero]
      clear hK K
      have HB2 := Lib.hid (nextB HB.out hb)
      clear hb
      go_wp2
      go_roundw
      case rel => exact ⟨y, Int.tmod x y, rfl, by go_num, by omega, by omega, by omega, by omega, HG2.out, HB2.out⟩
      case measure => simp [intOf]; omega
    · have hy' : y = 0 := by omega
      subst hy'
      have : (x.natAbs : Int) = x := Int.natAbs_of_nonneg hx0
      have hgx : (g : Int) = x := by rw [← hgg, Int.gcd_zero_right]; exact this
      have HGX := Lib.hid hgx
      clear hgx hgg this
      go_wp2
      exact bodyPost_ret (results_tmp rfl _ _ _) rfl ⟨by rw [HGX.out]; rfl, HB.out⟩

set_option maxHeartbeats 1000000 in
theorem refShares_c (s : Sv) (l k : Nat) (y : La) (x : Pe) (hy : s.ls[l]? = some y) (hx : s.ps[k]? = some x) (hw : 0 ≤ y.w ∧ y.w ≤ 4095) (hf : 1 ≤ x.f ∧ x.f ≤ 3) (hpn : s.pn ≤ 20) (hln : s.ln ≤ 20) (w : World) (hi : s.In w) :
    Calls Tryz.prog 134 #[s.val, .int .i64 l, .int .i64 k] w fun e w' => e = .returned (.bool (hasB y.w k && shB x.f)) ∧ Below w.heap.size w w' := by
  obtain ⟨pA, lA, pn, pc, ln, lc, ps, ls⟩ := s
  obtain ⟨hp, hl⟩ := hi
  simp only [Sv.val] at *
  have hkp : k < pn := by rw [← hp.1]; exact (List.getElem?_eq_some_iff.1 hx).1
  have hll : l < ln := by rw [← hl.1]; exact (List.getElem?_eq_some_iff.1 hy).1
  obtain ⟨pb, po, rfl⟩ := hp.addr (by omega)
  obtain ⟨lb, lo, rfl⟩ := hl.addr (by omega)
  have B1 := Lib.hid (newB (Below.refl w.heap.size w) (.cells #[.slice (some ⟨pb, po, none⟩) pn pc, .slice (some ⟨lb, lo, none⟩) ln lc] 25))
  have q1 : (w.alloc (.cells #[.slice (some ⟨pb, po, none⟩) pn pc, .slice (some ⟨lb, lo, none⟩) ln lc] 25)).cell? ⟨lb, lo + l * 3 + 2, none⟩ = some (.int .i64 y.w) := (hl.keep B1.out).range La.cs_len hy 2 _ rfl
  have q2 : (w.alloc (.cells #[.slice (some ⟨pb, po, none⟩) pn pc, .slice (some ⟨lb, lo, none⟩) ln lc] 25)).cell? ⟨pb, po + k * 3 + 2, none⟩ = some (.int .i64 x.f) := (hp.keep B1.out).range Pe.cs_len hx 2 _ rfl
  have HH := Lib.hid fun (W : World) => refHas_c y.w hw.1 (by omega) k (by omega) W
  generalize y.w = yw at *
  generalize x.f = xf at *
  clear hp hl hx hy
  have HS := Lib.hid (show shB xf = !(xf == 2) from by
    have : xf = 1 ∨ xf = 2 ∨ xf = 3 := by omega
    rcases this with rfl | rfl | rfl <;> rfl)
  cases hh : hasB yw k
  · rw [hh] at HH
    clear hh
    go_enter Tryz.func134, Tryz.ntmps134
    go_wp2_with (go_at_call 36; refine (HH.out _).mono ?_; rintro e w2 ⟨rfl, rfl⟩)
    exact bodyPost_ret (results_tmp rfl _ _ _) rfl ⟨rfl, B1.out⟩
  · rw [hh] at HH
    rw [HS.out]
    clear hh HS
    by_cases h2 : xf = 2
    · subst h2
      go_enter Tryz.func134, Tryz.ntmps134
      go_wp2_with (go_at_call 36; refine (HH.out _).mono ?_; rintro e w2 ⟨rfl, rfl⟩)
      exact bodyPost_ret (results_tmp rfl _ _ _) rfl ⟨rfl, B1.out⟩
    · have e1 : (xf != 2) = true := by simp [h2]
      have HE := Lib.hid (show (true && !(xf == 2)) = true by simp [h2])
      rw [HE.out]
      go_enter Tryz.func134, Tryz.ntmps134
      go_wp2_with (go_at_call 36; refine (HH.out _).mono ?_; rintro e w2 ⟨rfl, rfl⟩)
      exact bodyPost_ret (results_tmp rfl _ _ _) rfl ⟨rfl, B1.out⟩
end Go.Proofs
namespace Go.Proofs
open Go.RowKit Go.Shelf
attribute [local go_sem ↓] Go.wp_at_zero Go.wp_at_succ

theorem parts_take {ps : List Pe} {k : Nat} {x : Pe} (hx : ps[k]? = some x) (w : Int) : partsL (ps.take (k + 1)) w = partsL (ps.take k) w + (if hasB w k && shB x.f then x.p else 0) := by
  have hk := (List.getElem?_eq_some_iff.1 hx).1
  have e : ps.take (k + 1) = ps.take k ++ [x] := by
    rw [← List.take_append_getElem hk]
    have := List.getElem?_eq_getElem hk
    rw [hx] at this; cases this; rfl
  have hl : (ps.take k).length = k := by simp; omega
  unfold partsL
  rw [e, shFrom_snoc, hl, Nat.zero_add, List.map_append, sumI_append]
  split <;> simp [sumI]
theorem Seas.partsTake {ps : List Pe} {ls : List La} (h : Seas ps ls) (w : Int) (k : Nat) : 0 ≤ partsL (ps.take k) w ∧ partsL (ps.take k) w ≤ 24 := by
  have h0 : ∀ x ∈ ps, 0 ≤ x.p := fun x hx => by have := h.pe x hx; omega
  have h0t : ∀ x ∈ ps.take k, 0 ≤ x.p := fun x hx => h0 x (List.mem_of_mem_take hx)
  have h1 := shFrom_le w (ps.take k) 0 h0t
  have h2 : sumI ((ps.take k).map Pe.p) ≤ sumI (ps.map Pe.p) := by
    conv => rhs; rw [← List.take_append_drop k ps]
    rw [List.map_append, sumI_append]
    have := sumI_nonneg ((ps.drop k).map Pe.p) (fun y hy => by obtain ⟨z, hz, rfl⟩ := List.mem_map.1 hy; exact h0 z (List.mem_of_mem_drop hz))
    omega
  have h3 := h.sum
  refine ⟨sumI_nonneg _ (fun y hy => ?_), by unfold partsL; omega⟩
  obtain ⟨z, hz, rfl⟩ := List.mem_map.1 hy
  exact h0t z (shFrom_mem _ _ _ _ hz)
theorem Seas.w4095 {ps : List Pe} {ls : List La} (h : Seas ps ls) {l : La} (hl : l ∈ ls) : 0 ≤ l.w ∧ l.w ≤ 63 := by
  have h1 := h.la l hl
  have h2 := h.six
  have h3 : (2 : Nat) ^ ps.length ≤ 2 ^ 6 := Nat.pow_le_pow_right (by omega) h2
  have e : ((2 ^ ps.length : Nat) : Int) = (2 : Int) ^ ps.length := by push_cast; rfl
  omega

set_option maxHeartbeats 2000000 in
theorem refParts_c (s : Sv) (hs : Seas s.ps s.ls) (l : Nat) (y : La) (hy : s.ls[l]? = some y) (w : World) (hi : s.In w) :
    Calls Tryz.prog 85 #[s.val, .int .i64 l] w fun e w' => e = .returned (.int .i64 (partsL s.ps y.w)) ∧ Below w.heap.size w w' := by
  have hp6 : s.pn ≤ 6 := by rw [← hi.ps.1]; exact hs.six
  have hl6 : s.ln ≤ 6 := by rw [← hi.ls.1]; exact hs.few
  have hyw := hs.w4095 (List.mem_of_getElem? hy)
  have HSh := Lib.hid fun (k : Nat) (x : Pe) (hx : s.ps[k]? = some x) (w' : World) (hb : Below w.heap.size w w') => refShares_c s l k y x hy hx (by omega) (by have := hs.pe x (List.mem_of_getElem? hx); omega) (by omega) (by omega) w' (hi.keep hb)
  have HSe := Lib.hid hs
  obtain ⟨pA, lA, pn, pc, ln, lc, ps, ls⟩ := s
  obtain ⟨hp, hl⟩ := hi
  simp only [Sv.val] at *
  have HP := Lib.hid hp; have HN := Lib.hid hp.1
  obtain ⟨w1, hw1⟩ : ∃ w1, w1 = w.alloc (.cells #[.slice pA pn pc, .slice lA ln lc] 25) := ⟨_, rfl⟩
  have B1 := Lib.hid (show Below w.heap.size w w1 from by rw [hw1]; exact newB (Below.refl _ _) _)
  have F1 := Lib.hid (show Has w1 w.heap.size 25 #[.slice pA pn pc, .slice lA ln lc] from by rw [hw1]; exact Has.new w 25 _)
  have HW := Lib.hid hw1
  clear hp hl hs hw1 hy
  generalize y.w = yw at *
  go_enter Tryz.func85, Tryz.ntmps85
  go_wp2
  rw [← HW.out]
  clear HW
  go_loopw [5, 6] (fun v i wr => ∃ k : Nat, k ≤ pn ∧ i = .int .i64 k ∧ v = .int .i64 (partsL (ps.take k) yw) ∧ Below w1.heap.size w1 wr) (fun _ i _ => pn - (intOf i).toNat)
  case atStart => exact ⟨0, by omega, rfl, by simp [partsL, shFrom, sumI], Below.refl _ _⟩
  case round =>
    obtain ⟨k, hk, rfl, rfl, hB⟩ := hrel
    have HB := Lib.hid hB
    have cf := (F1.out.after hB).cell
    have hb0 := HSe.out.partsTake yw k
    clear hB
    by_cases hkn : k < pn
    · have hkl : k < ps.length := by rw [HN.out]; exact hkn
      have hx := List.getElem?_eq_getElem hkl
      obtain ⟨x, hxx⟩ : ∃ x, x = ps[k] := ⟨_, rfl⟩
      rw [← hxx] at hx
      have HT := Lib.hid (parts_take hx yw)
      have hpx := HSe.out.pe x (List.mem_of_getElem? hx)
      have HC := Lib.hid (HSh.out k x hx wr (nextB B1.out HB.out))
      obtain ⟨b, o, he⟩ := HP.out.addr (by omega)
      subst he
      have q1 := fun (W : World) (hb : Below wr.heap.size wr W) => (show W.cell? ⟨b, o + k * 3, none⟩ = some (.int .i64 x.p) from by have := (((HP.out.keep B1.out).keep HB.out).keep hb).range Pe.cs_len hx 0 _ rfl; simpa using this)
      have F2 := Lib.hid (F1.out.after HB.out)
      clear hx hxx
      cases hh : (hasB yw k && shB x.f)
      · rw [hh] at HC HT
        have HT2 := Lib.hid (show partsL (ps.take (k + 1)) yw = partsL (ps.take k) yw from by rw [HT.out]; simp)
        clear hh HT
        go_wp2_with (first
          | (refine wpList_load_row rfl 25 _ rfl w.heap.size rfl 25 _ (0, 0) _ F2.out Tryz.underlying25 rfl (by kernel_rfl) ?_)
          | (go_at_call 134; refine (HC.out).mono ?_; rintro e w2 ⟨rfl, hb⟩; have B2 := Lib.hid (nextB HB.out hb); clear hb))
        go_roundw
        case rel => exact ⟨k + 1, by omega, by go_num, by rw [HT2.out], B2.out⟩
        case measure => first | (simp [intOf]; done) | (simp [intOf]; omega)
      · rw [hh] at HC HT
        have HT2 := Lib.hid (show partsL (ps.take (k + 1)) yw = partsL (ps.take k) yw + x.p from by rw [HT.out]; simp)
        clear hh HT
        generalize partsL (ps.take k) yw = P at *
        generalize x.p = xp at *
        go_wp2_with (first
          | (refine wpList_load_row rfl 25 _ rfl w.heap.size rfl 25 _ (0, 0) _ F2.out Tryz.underlying25 rfl (by kernel_rfl) ?_)
          | (go_at_call 134; refine (HC.out).mono ?_; rintro e w2 ⟨rfl, hb⟩; have B2 := Lib.hid (nextB HB.out hb); have qq := q1 w2 hb; have cc := (F2.out.after hb).cell; clear hb))
        go_roundw
        case rel => exact ⟨k + 1, by omega, by go_num, by rw [HT2.out], B2.out⟩
        case measure => first | (simp [intOf]; done) | (simp [intOf]; omega)
    · have hke : k = pn := by omega
      subst hke
      have HE := Lib.hid (show ps.take k = ps from List.take_of_length_le (by rw [HN.out]; exact Nat.le_refl _))
      go_wp2
      exact bodyPost_ret (results_tmp rfl _ _ _) rfl ⟨by rw [HE.out]; rfl, nextB B1.out HB.out⟩

theorem denTo_take1 (ps : List Pe) {ls : List La} {j : Nat} {y : La} (hy : ls[j]? = some y) : denTo ps 1 (ls.take (j + 1)) = lcmI (denTo ps 1 (ls.take j)) (partsL ps y.w) := by
  have hk := (List.getElem?_eq_some_iff.1 hy).1
  have e : ls.take (j + 1) = ls.take j ++ [y] := by
    rw [← List.take_append_getElem hk]
    have := List.getElem?_eq_getElem hk
    rw [hy] at this; cases this; rfl
  rw [e, denTo_append]; rfl
theorem Seas.denTake {ps : List Pe} {ls : List La} (h : Seas ps ls) (j : Nat) : 1 ≤ denTo ps 1 (ls.take j) ∧ denTo ps 1 (ls.take j) ≤ 191102976 := by
  have h1 := denTo_bd ps (ls.take j) 1 1 (fun l hl => h.parts (h.la l (List.mem_of_mem_take hl)).2.2.2.2.2.2) (by omega)
  have h2 := pow24 (ls.take j).length (by have := h.few; simp; omega)
  omega
set_option maxHeartbeats 2000000 in
theorem refCommon_c (s : Sv) (hs : Seas s.ps s.ls) (w : World) (hi : s.In w) :
    Calls Tryz.prog 28 #[s.val] w fun e w' => e = .returned (.int .i64 (denF s.ps s.ls)) ∧ Below w.heap.size w w' := by
  have hp6 : s.pn ≤ 6 := by rw [← hi.ps.1]; exact hs.six
  have hl6 : s.ln ≤ 6 := by rw [← hi.ls.1]; exact hs.few
  have HPa := Lib.hid fun (l : Nat) (y : La) (hy : s.ls[l]? = some y) (w' : World) (hb : Below w.heap.size w w') => refParts_c s hs l y hy w' (hi.keep hb)
  have HSe := Lib.hid hs
  obtain ⟨pA, lA, pn, pc, ln, lc, ps, ls⟩ := s
  obtain ⟨hp, hl⟩ := hi
  simp only [Sv.val] at *
  have HN := Lib.hid hl.1
  obtain ⟨w1, hw1⟩ : ∃ w1, w1 = w.alloc (.cells #[.slice pA pn pc, .slice lA ln lc] 25) := ⟨_, rfl⟩
  have B1 := Lib.hid (show Below w.heap.size w w1 from by rw [hw1]; exact newB (Below.refl _ _) _)
  have F1 := Lib.hid (show Has w1 w.heap.size 25 #[.slice pA pn pc, .slice lA ln lc] from by rw [hw1]; exact Has.new w 25 _)
  have HW := Lib.hid hw1
  clear hp hl hs hw1
  unfold denF
  go_enter Tryz.func28, Tryz.ntmps28
  go_wp2
  rw [← HW.out]
  clear HW
  go_loopw [3, 4] (fun v i wr => ∃ k : Nat, k ≤ ln ∧ i = .int .i64 k ∧ v = .int .i64 (denTo ps 1 (ls.take k)) ∧ Below w1.heap.size w1 wr) (fun _ i _ => ln - (intOf i).toNat)
  case atStart => exact ⟨0, by omega, rfl, by simp [denTo], Below.refl _ _⟩
  case round =>
    obtain ⟨k, hk, rfl, rfl, hB⟩ := hrel
    have HB := Lib.hid hB
    have cf := (F1.out.after hB).cell
    have hd := HSe.out.denTake k
    clear hB
    by_cases hkn : k < ln
    · have hkl : k < ls.length := by rw [HN.out]; exact hkn
      have hy := List.getElem?_eq_getElem hkl
      obtain ⟨y, hyy⟩ : ∃ y, y = ls[k] := ⟨_, rfl⟩
      rw [← hyy] at hy
      have HT := Lib.hid (denTo_take1 ps hy)
      have hpp := HSe.out.parts (HSe.out.la y (List.mem_of_getElem? hy)).2.2.2.2.2.2
      have HC := Lib.hid (HPa.out k y hy wr (nextB B1.out HB.out))
      have F2 := Lib.hid (F1.out.after HB.out)
      clear hy hyy
      generalize partsL ps y.w = P at *
      generalize denTo ps 1 (ls.take k) = D at *
      have HG := Lib.hid fun (W : World) => refDivisor_c D P (by omega) (by omega) W
      obtain ⟨l0, l1, l2, l3, l4⟩ := lcmI_bd hd hpp
      have HL := Lib.hid (show lcmI D P = D / (Int.gcd D P : Int) * P from rfl)
      rw [HL.out] at l0 l1
      have hg0 : 0 < (Int.gcd D P : Int) := by
        have : 0 < Int.gcd D P := Int.gcd_pos_of_ne_zero_left _ (by omega)
        omega
      generalize (Int.gcd D P : Int) = g at *
      have q1 : D.tdiv g = D / g := Int.tdiv_eq_ediv_of_nonneg (by omega)
      have q2 : ¬ g = 0 := by omega
      have q3 : ¬ g = -1 := by omega
      generalize D / g = z at *
      have q4 : wrap64 z = z := w64 (by omega) (by omega)
      have q5 : wrap64 (z * P) = z * P := w64 (by omega) (by omega)
      go_wp2_with (first
        | (refine wpList_load_row rfl 25 _ rfl w.heap.size rfl 25 _ (0, 0) _ F2.out Tryz.underlying25 rfl (by kernel_rfl) ?_)
        | (go_at_call 85; refine (HC.out).mono ?_; rintro e w2 ⟨rfl, hb⟩; have B2 := Lib.hid (nextB HB.out hb); clear hb)
        | (go_at_call 86; refine (HG.out _).mono ?_; rintro e w3 ⟨rfl, hb⟩; have B3 := Lib.hid (nextB B2.out hb); clear hb))
      go_roundw
      case rel => exact ⟨k + 1, by omega, by go_num, by rw [HT.out, HL.out], B3.out⟩
      case measure => first | (simp [intOf]; done) | (simp [intOf]; omega)
    · have hke : k = ln := by omega
      subst hke
      have HE := Lib.hid (show ls.take k = ls from List.take_of_length_le (by rw [HN.out]; exact Nat.le_refl _))
      go_wp2
      exact bodyPost_ret (results_tmp rfl _ _ _) rfl ⟨by rw [HE.out]; rfl, nextB B1.out HB.out⟩
end Go.Proofs
namespace Go.Proofs
open Go.RowKit Go.Shelf
attribute [local go_sem ↓] Go.wp_at_zero Go.wp_at_succ

theorem claim_ref (ps : List Pe) (D : Int) (y : La) {k : Nat} {x : Pe} (hx : ps[k]? = some x) (h : (hasB y.w k && shB x.f) = true) : claimF ps D y k = netI y * x.p * (D / partsL ps y.w) := by
  unfold claimF
  rw [hx]
  simp only [h, if_true]
  rw [Int.mul_assoc, Int.mul_comm (D / partsL ps y.w), ← Int.mul_assoc]
theorem claim_none (ps : List Pe) (D : Int) (y : La) {k : Nat} {x : Pe} (hx : ps[k]? = some x) (h : (hasB y.w k && shB x.f) = false) : claimF ps D y k = 0 := by
  unfold claimF
  rw [hx]
  simp [h]
set_option maxHeartbeats 400000 in
set_option maxRecDepth 20000 in
theorem refClaim_c (s : Sv) (hs : Seas s.ps s.ls) (l k : Nat) (y : La) (x : Pe) (hy : s.ls[l]? = some y) (hx : s.ps[k]? = some x) (w : World) (hi : s.In w) :
    Calls Tryz.prog 87 #[s.val, .int .i64 l, .int .i64 k] w fun e w' => e = .returned (.int .i64 (claimF s.ps (denF s.ps s.ls) y k)) ∧ Below w.heap.size w w' := by
  have hp6 : s.pn ≤ 6 := by rw [← hi.ps.1]; exact hs.six
  have hl6 : s.ln ≤ 6 := by rw [← hi.ls.1]; exact hs.few
  have hym := List.mem_of_getElem? hy
  have hla := hs.la y hym
  have hyw := hs.w4095 hym
  have hpe := hs.pe x (List.mem_of_getElem? hx)
  have HSh := Lib.hid fun (w' : World) (hb : Below w.heap.size w w') => refShares_c s l k y x hy hx (by omega) (by omega) (by omega) (by omega) w' (hi.keep hb)
  have HCo := Lib.hid fun (w' : World) (hb : Below w.heap.size w w') => refCommon_c s hs w' (hi.keep hb)
  have HPa := Lib.hid fun (w' : World) (hb : Below w.heap.size w w') => refParts_c s hs l y hy w' (hi.keep hb)
  have hcb := hs.claim hym k
  have hdn := hs.den
  have hpp := hs.parts hla.2.2.2.2.2.2
  have hkp : k < s.pn := by rw [← hi.ps.1]; exact (List.getElem?_eq_some_iff.1 hx).1
  have hll : l < s.ln := by rw [← hi.ls.1]; exact (List.getElem?_eq_some_iff.1 hy).1
  obtain ⟨pA, lA, pn, pc, ln, lc, ps, ls⟩ := s
  obtain ⟨hp, hl⟩ := hi
  simp only [Sv.val] at *
  obtain ⟨pb, po, rfl⟩ := hp.addr (by omega)
  obtain ⟨lb, lo, rfl⟩ := hl.addr (by omega)
  have B1 := Lib.hid (newB (Below.refl w.heap.size w) (.cells #[.slice (some ⟨pb, po, none⟩) pn pc, .slice (some ⟨lb, lo, none⟩) ln lc] 25))
  have F1 := Lib.hid (Has.new w 25 #[.slice (some ⟨pb, po, none⟩) pn pc, .slice (some ⟨lb, lo, none⟩) ln lc])
  have Q1 := Lib.hid fun (W : World) (hb : Below w.heap.size w W) => (show W.rangeAt lb (lo + l * 3) y.cs from (hl.keep hb).range La.cs_len hy)
  have Q2 := Lib.hid fun (W : World) (hb : Below w.heap.size w W) => (show W.cell? ⟨pb, po + k * 3, none⟩ = some (.int .i64 x.p) from by have := (hp.keep hb).range Pe.cs_len hx 0 _ rfl; simpa using this)
  cases hh : (hasB y.w k && shB x.f)
  · have HE := Lib.hid (claim_none ps (denF ps ls) y hx hh)
    rw [hh] at HSh
    rw [HE.out]
    clear hh hp hl hs hx hy HCo HPa hcb hdn hpp hla hyw hpe
    go_enter Tryz.func87, Tryz.ntmps87
    go_wp2_with (first
      | (refine wpList_load_row rfl 25 _ rfl w.heap.size rfl 25 _ (0, 0) _ F1.out Tryz.underlying25 rfl (by kernel_rfl) ?_)
      | (go_at_call 134; refine (HSh.out _ B1.out).mono ?_; rintro e w2 ⟨rfl, hb⟩; have B2 := Lib.hid (nextB B1.out hb); clear hb))
    exact bodyPost_ret (results_tmp rfl _ _ _) rfl ⟨rfl, B2.out⟩
  · have HE := Lib.hid (claim_ref ps (denF ps ls) y hx hh)
    rw [HE.out] at hcb
    rw [hh] at HSh
    rw [HE.out]
    have hnb := netI_bd ⟨hla.1, hla.2.1, hla.2.2.1, hla.2.2.2.1⟩
    have hq := div_bd (d := denF ps ls) (p := partsL ps y.w) ⟨by omega, hdn.2⟩ hpp.1
    have hm := mul_bd2 hnb (show (0 : Int) ≤ x.p ∧ x.p ≤ 24 by omega)
    have HNe := Lib.hid fun (W : World) => (show Calls Tryz.prog 106 #[.agg y.cs.toArray] W fun e w' => e = .returned (.int .i64 (netI y)) ∧ Below W.heap.size W w' from refNet_c y.g y.c y.w (by omega) (by omega) W)
    have qt : (denF ps ls).tdiv (partsL ps y.w) = denF ps ls / partsL ps y.w := Int.tdiv_eq_ediv_of_nonneg (by omega)
    clear hh hp hl hs hx hy hla hyw hpe HE
    generalize denF ps ls = D at *
    generalize partsL ps y.w = P at *
    generalize D / P = z at *
    generalize netI y = N at *
    generalize x.p = xp at *
    have HYL := Lib.hid (show y.cs.length = 3 from rfl)
    generalize y.cs = ycs at *
    have q2 : ¬ P = 0 := by omega
    have q3 : ¬ P = -1 := by omega
    obtain ⟨NP, hNP⟩ : ∃ NP, NP = N * xp := ⟨_, rfl⟩
    rw [← hNP] at hcb hm
    rw [← hNP]
    obtain ⟨NPz, hNPz⟩ : ∃ NPz, NPz = NP * z := ⟨_, rfl⟩
    rw [← hNPz] at hcb
    rw [← hNPz]
    have w1' : IntKind.i64.wrap (N * xp) = NP := by rw [IntKind.wrap_i64]; omega
    have w2' : IntKind.i64.wrap (NP * z) = NPz := by rw [IntKind.wrap_i64]; omega
    clear hNP hNPz
    have w3' : IntKind.i64.wrap z = z := by rw [IntKind.wrap_i64]; omega
    go_enter Tryz.func87, Tryz.ntmps87
    go_wp2_with (first
      | (refine wpList_load_row rfl 25 _ rfl w.heap.size rfl 25 _ (0, 0) _ F1.out Tryz.underlying25 rfl (by kernel_rfl) ?_)
      | (go_at_call 134; refine (HSh.out _ B1.out).mono ?_; rintro e w2 ⟨rfl, hb⟩; have B2 := Lib.hid (nextB B1.out hb); have F2 := Lib.hid (F1.out.after hb); clear hb))
    apply wp_loose 21 [.v _, .v _, .v _, .v _, .v _, .v (.int .i64 N), .v _, .v _, .v _, .v _, .v _, .v (.int .i64 xp), .v (.int .i64 NP), .v _, .v (.int .i64 D), .v _, .v _, .v (.int .i64 P), .v (.int .i64 z), .v (.int .i64 NPz), .v (.int .i64 NPz)] (by kernel_rfl) (by kernel_rfl) (by kernel_rfl) (by decide) rfl
    intro K hK
    iterate 4 (apply OblS.val rfl; (intro w' hb _; have := (F2.out.after hb).cell; go_simp; rfl))
    refine OblS.mid rfl 44 _ rfl lb (lo + l * 3) rfl ycs _ (fun W hb => Q1.out W (nextB B2.out hb)) Tryz.underlying44 rfl (by rw [HYL.out]; kernel_rfl) ?_
    apply OblS.call 106 rfl
    · intro w' hb _; apply Exists.intro; apply And.intro; (go_simp; rfl); exact HNe.out w'
    iterate 5 (apply OblS.val rfl; (intro w' hb _; have := (F2.out.after hb).cell; go_simp; rfl))
    apply OblS.val rfl
    · intro w' hb _; have := Q2.out w' (nextB B2.out hb); go_simp
    apply OblS.val rfl
    · intro w' hb _; go_simp
    simp only [Act.put, List.setIfInBounds_toArray, List.set_cons_zero, List.set_cons_succ]
    refine OblS.row rfl 25 _ rfl w.heap.size rfl 25 _ _ F2.out Tryz.underlying25 rfl (by kernel_rfl) ?_
    apply OblS.call 28 rfl
    · intro w' hb _; apply Exists.intro; apply And.intro; (go_simp; rfl); exact HCo.out w' (nextB B2.out hb)
    simp only [Act.put, List.setIfInBounds_toArray, List.set_cons_zero, List.set_cons_succ]
    refine OblS.row rfl 25 _ rfl w.heap.size rfl 25 _ _ F2.out Tryz.underlying25 rfl (by kernel_rfl) ?_
    apply OblS.val rfl
    · intro w' hb _; go_simp; rfl
    apply OblS.call 85 rfl
    · intro w' hb _; apply Exists.intro; apply And.intro; (go_simp; rfl); exact HPa.out w' (nextB B2.out hb)
    apply OblS.val rfl
    · intro w' hb _; go_simp
    apply OblS.val rfl
    · intro w' hb _; go_simp
    apply OblS.val rfl
    · intro w' hb _; go_simp
    apply OblS.nil
    apply hK
    intro w3 hb hH
    have B3 := Lib.hid (nextB B2.out hb)
    clear hH hK K hb
    simp only [Act.put, List.setIfInBounds_toArray, List.set_cons_zero, List.set_cons_succ, List.drop_succ_cons, List.drop_zero]
    go_wp2
    exact bodyPost_ret (results_tmp rfl _ _ _) rfl ⟨rfl, B3.out⟩

end Go.Proofs
namespace Go.Proofs
open Go.RowKit Go.Shelf
attribute [local go_sem ↓] Go.wp_at_zero Go.wp_at_succ

theorem colL_take {ps : List Pe} {ls : List La} {k j : Nat} {y : La} (hy : ls[j]? = some y) : sumI ((colL ps ls k).take (j + 1)) = sumI ((colL ps ls k).take j) + claimF ps (denF ps ls) y k := by
  have hj : j < (colL ps ls k).length := by unfold colL; rw [List.length_map]; exact (List.getElem?_eq_some_iff.1 hy).1
  rw [sumI_take _ _ hj]
  congr 1
  have : (colL ps ls k)[j]? = some (claimF ps (denF ps ls) y k) := by unfold colL; rw [List.getElem?_map, hy]; rfl
  rw [List.getElem?_eq_getElem hj] at this
  exact Option.some.inj this
theorem totL_take {ps : List Pe} {ls : List La} {k : Nat} (hk : k < ps.length) : (totL ps ls).take (k + 1) = (totL ps ls).take k ++ [totF ps ls k] := by
  have hl : k < (totL ps ls).length := by simp [totL]; exact hk
  rw [← List.take_append_getElem hl]
  simp [totL]
set_option maxHeartbeats 400000 in
set_option maxRecDepth 20000 in
theorem refClaims_c (s : Sv) (hs : Seas s.ps s.ls) (w : World) (hi : s.In w) :
    Calls Tryz.prog 30 #[s.val] w (Gives eI w (totL s.ps s.ls)) := by
  have hp6 : s.pn ≤ 6 := by rw [← hi.ps.1]; exact hs.six
  have hl6 : s.ln ≤ 6 := by rw [← hi.ls.1]; exact hs.few
  have HCl := Lib.hid fun (l k : Nat) (y : La) (x : Pe) (hy : s.ls[l]? = some y) (hx : s.ps[k]? = some x) (w' : World) (hb : Below w.heap.size w w') => refClaim_c s hs l k y x hy hx w' (hi.keep hb)
  have HSe := Lib.hid hs
  obtain ⟨pA, lA, pn, pc, ln, lc, ps, ls⟩ := s
  obtain ⟨hp, hl⟩ := hi
  simp only [Sv.val] at *
  have HPN := Lib.hid hp.1; have HLN := Lib.hid hl.1
  obtain ⟨w1, hw1⟩ : ∃ w1, w1 = w.alloc (.cells #[.slice pA pn pc, .slice lA ln lc] 25) := ⟨_, rfl⟩
  have B1 := Lib.hid (show Below w.heap.size w w1 from by rw [hw1]; exact newB (Below.refl _ _) _)
  have F1 := Lib.hid (show Has w1 w.heap.size 25 #[.slice pA pn pc, .slice lA ln lc] from by rw [hw1]; exact Has.new w 25 _)
  have HW := Lib.hid hw1
  clear hp hl hs hw1
  go_enter Tryz.func30, Tryz.ntmps30
  go_wp2
  rw [← HW.out]
  clear HW
  go_loopw [3, 4] (fun v i wr => ∃ k : Nat, k ≤ pn ∧ i = .int .i64 k ∧ Own eI w1.heap.size v ((totL ps ls).take k) wr ∧ Below w1.heap.size w1 wr) (fun _ i _ => pn - (intOf i).toNat)
  case atStart => exact ⟨0, by omega, rfl, by simpa using Own.nil eI w1.heap.size w1, Below.refl _ _⟩
  case round =>
    obtain ⟨k, hk, rfl, hO, hB⟩ := hrel
    have HB := Lib.hid hB; have HO := Lib.hid hO
    have cf := (F1.out.after hB).cell
    clear hB hO
    by_cases hkn : k < pn
    · have hkl : k < ps.length := by rw [HPN.out]; exact hkn
      have hx := List.getElem?_eq_getElem hkl
      obtain ⟨x, hxx⟩ : ∃ x, x = ps[k] := ⟨_, rfl⟩
      rw [← hxx] at hx
      have HTk := Lib.hid (totL_take (ls := ls) hkl)
      have HTL := Lib.hid (show ((totL ps ls).take k).length ≤ 20000000 by simp [totL]; omega)
      have HX := Lib.hid hx
      have HTe := Lib.hid (show totF ps ls k = sumI (colL ps ls k) from rfl)
      clear hx hxx
      go_wp2
      generalize wr = wa at *
      go_loopw [5, 6] (fun v i wr => ∃ j : Nat, j ≤ ln ∧ i = .int .i64 j ∧ v = .int .i64 (sumI ((colL ps ls k).take j)) ∧ Below wa.heap.size wa wr) (fun _ i _ => ln - (intOf i).toNat)
      case atStart => exact ⟨0, by omega, rfl, by simp [sumI], Below.refl _ _⟩
      case round =>
        obtain ⟨j, hj, rfl, rfl, hBq⟩ := hrel
        have HBq := Lib.hid hBq
        have cq := (F1.out.after (nextB HB.out hBq)).cell
        clear hBq
        by_cases hjn : j < ln
        · have hjl : j < ls.length := by rw [HLN.out]; exact hjn
          have hy := List.getElem?_eq_getElem hjl
          obtain ⟨y, hyy⟩ : ∃ y, y = ls[j] := ⟨_, rfl⟩
          rw [← hyy] at hy
          have HC := Lib.hid (HCl.out j k y x hy HX.out wr (nextB B1.out (nextB HB.out HBq.out)))
          have HT := Lib.hid (colL_take (ps := ps) (k := k) hy)
          have hb1 := HSe.out.col k j; have hb2 := HSe.out.col k (j + 1)
          rw [HT.out] at hb2
          have F2 := Lib.hid (F1.out.after (nextB HB.out HBq.out))
          clear hy hyy
          generalize claimF ps (denF ps ls) y k = c at *
          generalize sumI ((colL ps ls k).take j) = S at *
          have e1 : wrap64 (S + c) = S + c := w64 (by omega) (by omega)
          have e2 : IntKind.i64.wrap (S + c) = S + c := by rw [IntKind.wrap_i64]; omega
          go_wp2_with (first
            | (refine wpList_load_row rfl 25 _ rfl w.heap.size rfl 25 _ (0, 0) _ F2.out Tryz.underlying25 rfl (by kernel_rfl) ?_)
            | (go_at_call 87; refine (HC.out).mono ?_; rintro e w2 ⟨rfl, hb⟩; have B2 := Lib.hid (nextB HBq.out hb); clear hb))
          go_roundw
          case rel => exact ⟨j + 1, by omega, by go_num, by rw [HT.out], B2.out⟩
          case measure => first | (simp [intOf]; done) | (simp [intOf]; omega)
        · have hje : j = ln := by omega
          subst hje
          have HE := Lib.hid (show (colL ps ls k).take j = colL ps ls k from List.take_of_length_le (by simp [colL, HLN.out]))
          rw [HE.out]
          have BQ := Lib.hid (nextB HB.out HBq.out)
          generalize sumI (colL ps ls k) = T at *
          go_wp2_with (at_builtin; refine El.app1 eI_ok rfl _ _ rfl w1.heap.size u3 ((totL ps ls).take k) rfl ((HO.out.keep HBq.out).alloc (.cells #[.int .i64 T] 3)) HTL.out wr.heap.size T rfl (Has.new wr 3 _) (newB BQ.out _).size ?_; intro v3 w3 ho3 hb3 _; have O3 := Lib.hid ho3; have B3 := Lib.hid ((newB BQ.out (.cells #[.int .i64 T] 3)).trans hb3); clear ho3 hb3)
          go_roundw
          case rel => exact ⟨k + 1, by omega, by go_num, by rw [HTk.out, HTe.out]; exact O3.out, B3.out⟩
          case measure => first | (simp [intOf]; done) | (simp [intOf]; omega)
    · have hke : k = pn := by omega
      subst hke
      have HE := Lib.hid (show (totL ps ls).take k = totL ps ls from List.take_of_length_le (by simp [totL, HPN.out]))
      go_wp2
      exact bodyPost_ret (results_tmp rfl _ _ _) rfl ⟨_, rfl, by rw [← HE.out]; exact HO.out.lower B1.out.size, nextB B1.out HB.out⟩
end Go.Proofs
namespace Go.Proofs
open Go.RowKit Go.Shelf
attribute [local go_sem ↓] Go.wp_at_zero Go.wp_at_succ

theorem cell_keep {w w' : World} {p : Addr} {v : Value} (h : w.cell? p = some v) (hb : Below w.heap.size w w') : w'.cell? p = some v := by
  rw [← h]; exact hb.cell (block_lt_of_cell h)
set_option maxHeartbeats 600000 in
set_option maxRecDepth 20000 in
theorem refShare_c (s : Sv) (hs : Seas s.ps s.ls) (k : Nat) (hk : k < s.pn) (w : World) (hi : s.In w) :
    Calls Tryz.prog 90 #[s.val, .int .i64 k] w fun e w' => e = .returned (.int .i64 (shareF s.ps s.ls k)) ∧ Below w.heap.size w w' := by
  have HCo := Lib.hid fun (w' : World) (hb : Below w.heap.size w w') => refCommon_c s hs w' (hi.keep hb)
  have HCl := Lib.hid fun (w' : World) (hb : Below w.heap.size w w') => refClaims_c s hs w' (hi.keep hb)
  have hdn := hs.den
  have htt := hs.tot k
  have HK := Lib.hid (show (totL s.ps s.ls)[k]? = some (totF s.ps s.ls k) by
    have : k < s.ps.length := by rw [hi.ps.1]; exact hk
    simp [totL, this])
  have HLn := Lib.hid (show (totL s.ps s.ls).length = s.pn by simp [totL, hi.ps.1])
  have HE := Lib.hid (show shareF s.ps s.ls k = totF s.ps s.ls k / denF s.ps s.ls from rfl)
  obtain ⟨pA, lA, pn, pc, ln, lc, ps, ls⟩ := s
  simp only [Sv.val] at *
  rw [HE.out]
  have hq := div_bd (d := totF ps ls k) (p := denF ps ls) htt hdn.1
  have qt : (totF ps ls k).tdiv (denF ps ls) = totF ps ls k / denF ps ls := Int.tdiv_eq_ediv_of_nonneg (by omega)
  have F1 := Lib.hid (Has.new w 25 #[.slice pA pn pc, .slice lA ln lc])
  have B1 := Lib.hid (newB (Below.refl w.heap.size w) (.cells #[.slice pA pn pc, .slice lA ln lc] 25))
  clear hi hs HE
  generalize totL ps ls = TL at *
  generalize totF ps ls k = T at *
  generalize denF ps ls = D at *
  generalize T / D = Q at *
  have q2 : ¬ D = 0 := by omega
  have q3 : ¬ D = -1 := by omega
  have w3' : IntKind.i64.wrap Q = Q := by rw [IntKind.wrap_i64]; omega
  go_enter Tryz.func90, Tryz.ntmps90
  go_wp2
  generalize w.alloc (.cells #[.slice pA pn pc, .slice lA ln lc] 25) = w1 at *
  apply wp_loose 9 [.v _, .r (fun v w' => Own eI w.heap.size v TL w'), .v _, .r (fun v w' => ∃ a : Addr, v = .pointer (some a) ∧ w'.cell? a = some (.int .i64 T)), .v (.int .i64 T), .v _, .v (.int .i64 D), .v (.int .i64 Q), .v (.int .i64 Q)] (by kernel_rfl) (by kernel_rfl) (by kernel_rfl) (by decide) rfl
  intro K hK
  refine OblS.row rfl 25 _ rfl w.heap.size rfl 25 _ _ F1.out Tryz.underlying25 rfl (by kernel_rfl) ?_
  apply OblS.callR 30
  · intro v w1 w2 h hb; exact h.keep hb
  · rfl
  · intro w' hb _
    apply Exists.intro; apply And.intro; (go_simp; rfl); refine (HCl.out w' (nextB B1.out hb)).mono ?_
    rintro e w2 ⟨v, rfl, ho, hb2⟩
    exact ⟨v, rfl, ho.lower (nextB B1.out hb).size, hb2⟩
  intro v1
  apply OblS.val rfl
  · intro w' hb _; go_simp; rfl
  apply OblS.run
  · rintro v w1 w2 ⟨a, e, h⟩ hb; exact ⟨a, e, cell_keep h hb⟩
  · rfl
  · intro w' hb hH
    have ho := hH _ (List.mem_cons_self ..) (by kernel_rfl)
    obtain ⟨A2, c2, rfl, hsl, _⟩ := Own.sl ho
    rw [HLn.out] at hsl
    obtain ⟨b, o, rfl⟩ := hsl.addr (by omega)
    have hc := hsl.range inC_len HK.out 0 _ rfl
    have hl : TL.length = pn := HLn.out
    rw [hl]
    exact ⟨.pointer (some ⟨b, o + k, none⟩), w', by go_simp, ⟨_, rfl, by simpa using hc⟩, Below.refl _ _⟩
  intro v3
  apply OblS.val rfl
  · intro w' hb hH
    obtain ⟨a, rfl, hc⟩ := hH _ (List.mem_cons_self ..) (by kernel_rfl)
    go_simp
  refine OblS.row rfl 25 _ rfl w.heap.size rfl 25 _ _ F1.out Tryz.underlying25 rfl (by kernel_rfl) ?_
  apply OblS.call 28 rfl
  · intro w' hb _; apply Exists.intro; apply And.intro; (go_simp; rfl); exact HCo.out w' (nextB B1.out hb)
  apply OblS.val rfl
  · intro w' hb _; go_simp
  apply OblS.val rfl
  · intro w' hb _; go_simp
  apply OblS.nil
  apply hK
  intro w3 hb hH
  have B3 := Lib.hid (nextB B1.out hb)
  clear hH hK K hb
  simp only [Act.put, List.setIfInBounds_toArray, List.set_cons_zero, List.set_cons_succ, List.drop_succ_cons, List.drop_zero]
  go_wp2
  exact bodyPost_ret (results_tmp rfl _ _ _) rfl ⟨rfl, B3.out⟩

theorem net_take {ls : List La} {j : Nat} {y : La} (f : La → Int) (hy : ls[j]? = some y) : sumI ((ls.take (j + 1)).map f) = sumI ((ls.take j).map f) + f y := by
  have hk := (List.getElem?_eq_some_iff.1 hy).1
  have e : ls.take (j + 1) = ls.take j ++ [y] := by
    rw [← List.take_append_getElem hk]
    have := List.getElem?_eq_getElem hk
    rw [hy] at this; cases this; rfl
  rw [e, List.map_append, sumI_append]; simp [sumI]
theorem Seas.netTake {ps : List Pe} {ls : List La} (h : Seas ps ls) (j : Nat) : 0 ≤ sumI ((ls.take j).map netI) ∧ sumI ((ls.take j).map netI) ≤ 600000 := by
  have hb : ∀ x ∈ (ls.take j).map netI, 0 ≤ x ∧ x ≤ 100000 := fun x hx => by
    obtain ⟨l, hl, rfl⟩ := List.mem_map.1 hx
    have hb := h.la l (List.mem_of_mem_take hl)
    exact netI_bd ⟨hb.1, hb.2.1, hb.2.2.1, hb.2.2.2.1⟩
  have h1 := sumI_bd _ 100000 (fun x hx => by have := hb x hx; omega)
  have h2 := sumI_nonneg _ (fun x hx => (hb x hx).1)
  have hl : ((ls.take j).map netI).length ≤ 6 := by have := h.few; simp; omega
  omega
set_option maxHeartbeats 600000 in
theorem refPool_c (s : Sv) (hs : Seas s.ps s.ls) (w : World) (hi : s.In w) :
    Calls Tryz.prog 55 #[s.val] w fun e w' => e = .returned (.int .i64 (sumI (s.ls.map netI))) ∧ Below w.heap.size w w' := by
  have hl6 : s.ln ≤ 6 := by rw [← hi.ls.1]; exact hs.few
  have HSe := Lib.hid hs
  obtain ⟨pA, lA, pn, pc, ln, lc, ps, ls⟩ := s
  obtain ⟨hp, hl⟩ := hi
  simp only [Sv.val] at *
  have HL := Lib.hid hl; have HN := Lib.hid hl.1
  obtain ⟨w1, hw1⟩ : ∃ w1, w1 = w.alloc (.cells #[.slice pA pn pc, .slice lA ln lc] 25) := ⟨_, rfl⟩
  have B1 := Lib.hid (show Below w.heap.size w w1 from by rw [hw1]; exact newB (Below.refl _ _) _)
  have F1 := Lib.hid (show Has w1 w.heap.size 25 #[.slice pA pn pc, .slice lA ln lc] from by rw [hw1]; exact Has.new w 25 _)
  have HW := Lib.hid hw1
  clear hp hl hs hw1
  go_enter Tryz.func55, Tryz.ntmps55
  go_wp2
  rw [← HW.out]
  clear HW
  go_loopw [3, 4] (fun v i wr => ∃ k : Nat, k ≤ ln ∧ i = .int .i64 k ∧ v = .int .i64 (sumI ((ls.take k).map netI)) ∧ Below w1.heap.size w1 wr) (fun _ i _ => ln - (intOf i).toNat)
  case atStart => exact ⟨0, by omega, rfl, by simp [sumI], Below.refl _ _⟩
  case round =>
    obtain ⟨k, hk, rfl, rfl, hB⟩ := hrel
    have HB := Lib.hid hB
    have cf := (F1.out.after hB).cell
    have hb1 := HSe.out.netTake k; have hb2 := HSe.out.netTake (k + 1)
    clear hB
    by_cases hkn : k < ln
    · have hkl : k < ls.length := by rw [HN.out]; exact hkn
      have hy := List.getElem?_eq_getElem hkl
      obtain ⟨y, hyy⟩ : ∃ y, y = ls[k] := ⟨_, rfl⟩
      rw [← hyy] at hy
      have HT := Lib.hid (net_take netI hy)
      rw [HT.out] at hb2
      have hla := HSe.out.la y (List.mem_of_getElem? hy)
      obtain ⟨b, o, he⟩ := HL.out.addr (by omega)
      subst he
      have hR := Lib.hid (((HL.out.keep B1.out).keep HB.out).range La.cs_len hy)
      obtain ⟨g, c, m⟩ := y
      simp only at hla
      replace hR := Lib.hid (show wr.rangeAt b (o + k * 3) [.int .i64 g, .int .i64 c, .int .i64 m] from hR.out)
      have HNe := Lib.hid fun (W : World) => refNet_c g c m (by omega) (by omega) W
      clear hy hyy
      generalize netI ⟨g, c, m⟩ = N at *
      generalize sumI ((ls.take k).map netI) = S at *
      have e1 : wrap64 (S + N) = S + N := w64 (by omega) (by omega)
      go_wp2_with (first
        | (refine wpList_load_mid rfl 44 _ rfl b (o + k * 3) rfl _ _ hR.out Tryz.underlying44 rfl (by kernel_rfl) ?_)
        | (go_at_call 106; refine (HNe.out _).mono ?_; rintro e w2 ⟨rfl, hb⟩; have B2 := Lib.hid (nextB HB.out hb); clear hb))
      go_roundw
      case rel => exact ⟨k + 1, by omega, by go_num, by rw [HT.out], B2.out⟩
      case measure => first | (simp [intOf]; done) | (simp [intOf]; omega)
    · have hke : k = ln := by omega
      subst hke
      have HE := Lib.hid (show ls.take k = ls from List.take_of_length_le (by rw [HN.out]; exact Nat.le_refl _))
      go_wp2
      exact bodyPost_ret (results_tmp rfl _ _ _) rfl ⟨by rw [HE.out]; rfl, nextB B1.out HB.out⟩

set_option maxHeartbeats 600000 in
theorem refEnd_c (p d f sh : Int) (hf : 1 ≤ f ∧ f ≤ 3) (hd : 0 ≤ d ∧ d ≤ 100000) (hs : 0 ≤ sh ∧ sh ≤ 1000000000000000000) (w : World) :
    Calls Tryz.prog 91 #[.agg #[.int .i64 p, .int .i64 d, .int .i64 f], .int .i64 sh] w fun e w' => e = .returned (endF f sh d).v ∧ Below w.heap.size w w' := by
  have X1 := Lib.hid ((Has.new w 49 #[.int .i64 p, .int .i64 d, .int .i64 f]).alloc (.cells #[.int .i64 0, .int .i64 0, .int .i64 0, .int .i64 0, .int .i64 0] 46))
  have X2 := Lib.hid (Has.new' (w.alloc (.cells #[.int .i64 p, .int .i64 d, .int .i64 f] 49)) 46 #[.int .i64 0, .int .i64 0, .int .i64 0, .int .i64 0, .int .i64 0] (g := w.heap.size + 1) (by simp))
  have B := Lib.hid (newB (newB (Below.refl w.heap.size w) (.cells #[.int .i64 p, .int .i64 d, .int .i64 f] 49)) (.cells #[.int .i64 0, .int .i64 0, .int .i64 0, .int .i64 0, .int .i64 0] 46))
  have hf3 : f = 1 ∨ f = 2 ∨ f = 3 := by omega
  rcases hf3 with rfl | rfl | rfl
  · have e1 : wrap64 (sh - min d sh) = sh - min d sh := w64 (by omega) (by omega)
    have e2 : wrap64 (d - min d sh) = d - min d sh := w64 (by omega) (by omega)
    have HE := Lib.hid (show endF 1 sh d = ⟨sh, min d sh, sh - min d sh, d - min d sh, 0⟩ by simp [endF, Int.min_comm])
    go_enter Tryz.func91, Tryz.ntmps91
    go_wp2_with (refine wpList_store_all rfl 46 _ _ rfl (w.heap.size + 1) rfl _ rfl 46 _ X2.out (by kernel_rfl) rfl (by simp [Value.oneCell']) ?_)
    exact bodyPost_ret (results_cell_row Tryz.results91 _ _ (w.heap.size + 1) 46 _ (0, 0) _ rfl (X2.out.setRow _) Tryz.underlying46 rfl (by kernel_rfl)) rfl ⟨by rw [HE.out]; rfl, rowB B.out (by omega) _⟩
  · go_enter Tryz.func91, Tryz.ntmps91
    go_wp2_with (refine wpList_store_all rfl 46 _ _ rfl (w.heap.size + 1) rfl _ rfl 46 _ X2.out (by kernel_rfl) rfl (by simp [Value.oneCell']) ?_)
    exact bodyPost_ret (results_cell_row Tryz.results91 _ _ (w.heap.size + 1) 46 _ (0, 0) _ rfl (X2.out.setRow _) Tryz.underlying46 rfl (by kernel_rfl)) rfl ⟨rfl, rowB B.out (by omega) _⟩
  · have q1 : sh.tdiv 2 = sh / 2 := Int.tdiv_eq_ediv_of_nonneg (by omega)
    have q2 : wrap64 (sh / 2) = sh / 2 := w64 (by omega) (by omega)
    have e1 : wrap64 (sh - min d (sh / 2)) = sh - min d (sh / 2) := w64 (by omega) (by omega)
    have e2 : wrap64 (d - min d (sh / 2)) = d - min d (sh / 2) := w64 (by omega) (by omega)
    have HE := Lib.hid (show endF 3 sh d = ⟨sh, min d (sh / 2), sh - min d (sh / 2), 0, d - min d (sh / 2)⟩ by simp [endF])
    go_enter Tryz.func91, Tryz.ntmps91
    go_wp2_with (refine wpList_store_all rfl 46 _ _ rfl (w.heap.size + 1) rfl _ rfl 46 _ X2.out (by kernel_rfl) rfl (by simp [Value.oneCell']) ?_)
    exact bodyPost_ret (results_cell_row Tryz.results91 _ _ (w.heap.size + 1) 46 _ (0, 0) _ rfl (X2.out.setRow _) Tryz.underlying46 rfl (by kernel_rfl)) rfl ⟨by rw [HE.out]; rfl, rowB B.out (by omega) _⟩
end Go.Proofs
namespace Go.Proofs
open Go.RowKit Go.Shelf
attribute [local go_sem ↓] Go.wp_at_zero Go.wp_at_succ

theorem sum_take_pe {ps : List Pe} {k : Nat} {x : Pe} (hx : ps[k]? = some x) : sumI ((ps.take (k + 1)).map Pe.p) = sumI ((ps.take k).map Pe.p) + x.p := by
  have hk := (List.getElem?_eq_some_iff.1 hx).1
  have e : ps.take (k + 1) = ps.take k ++ [x] := by
    rw [← List.take_append_getElem hk]
    have := List.getElem?_eq_getElem hk
    rw [hx] at this; cases this; rfl
  rw [e, List.map_append, sumI_append]; simp [sumI]
theorem season_no {ps : List Pe} {ls : List La} {k : Nat} {x : Pe} (hx : ps[k]? = some x) (h : peB x = false) : seasonB ps ls = false := by
  have : ps.all peB = false := all_not hx h
  simp [seasonB, persB, this]
theorem season_no2 {ps : List Pe} {ls : List La} {k : Nat} {x : La} (hx : ls[k]? = some x) (h : laB ps.length x = false) : seasonB ps ls = false := by
  have : ls.all (laB ps.length) = false := all_not hx h
  simp [seasonB, this]

set_option maxHeartbeats 1000000 in
set_option maxRecDepth 20000 in
theorem refSeason_c (s : Sv) (hpn : s.pn ≤ 1000000) (hln : s.ln ≤ 1000000) (w : World) (hi : s.In w) :
    Calls Tryz.prog 27 #[s.val] w fun e w' => e = .returned (.bool (seasonB s.ps s.ls)) ∧ Below w.heap.size w w' := by
  obtain ⟨pA, lA, pn, pc, ln, lc, ps, ls⟩ := s
  obtain ⟨hp, hl⟩ := hi
  simp only [Sv.val] at *
  have HP := Lib.hid hp; have HPN := Lib.hid hp.1; have HL := Lib.hid hl; have HLN := Lib.hid hl.1
  have B1 := Lib.hid (newB (Below.refl w.heap.size w) (.cells #[.slice pA pn pc, .slice lA ln lc] 25))
  have F1 := Lib.hid (Has.new w 25 #[.slice pA pn pc, .slice lA ln lc])
  clear hp hl
  have HI := Lib.hid fun (W : World) => refIn_c (pn : Int) 2 6 W
  cases h1 : inB (pn : Int) 2 6
  · have HE := Lib.hid (show seasonB ps ls = false by simp [seasonB, persB, HPN.out, h1])
    rw [h1] at HI
    rw [HE.out]
    clear h1
    go_enter Tryz.func27, Tryz.ntmps27
    go_wp2_with (go_at_call 82; refine (HI.out _).mono ?_; rintro e w2 ⟨rfl, rfl⟩)
    exact bodyPost_ret (results_tmp rfl _ _ _) rfl ⟨rfl, B1.out⟩
  · by_cases h2 : 6 < ln
    · have HE := Lib.hid (show seasonB ps ls = false by
        have : ¬ ls.length ≤ 6 := by rw [HLN.out]; omega
        simp [seasonB, this])
      rw [h1] at HI
      rw [HE.out]
      clear h1
      go_enter Tryz.func27, Tryz.ntmps27
      go_wp2_with (go_at_call 82; refine (HI.out _).mono ?_; rintro e w2 ⟨rfl, rfl⟩)
      exact bodyPost_ret (results_tmp rfl _ _ _) rfl ⟨rfl, B1.out⟩
    · have H1 := Lib.hid h1
      have hp6 : 2 ≤ pn ∧ pn ≤ 6 := by simp only [inB, decide_eq_true_eq] at h1; omega
      rw [h1] at HI
      clear h1
      go_enter Tryz.func27, Tryz.ntmps27
      go_wp2_with (go_at_call 82; refine (HI.out _).mono ?_; rintro e w2 ⟨rfl, rfl⟩)
      generalize w.alloc (.cells #[.slice pA pn pc, .slice lA ln lc] 25) = w1 at *
      go_loopw [3, 4] (fun v i wr => ∃ k : Nat, k ≤ pn ∧ i = .int .i64 k ∧ v = .int .i64 (sumI ((ps.take k).map Pe.p)) ∧ Below w1.heap.size w1 wr ∧ (∀ (j : Nat) x, j < k → ps[j]? = some x → peB x = true)) (fun _ i _ => pn - (intOf i).toNat)
      case atStart => exact ⟨0, by omega, rfl, by simp [sumI], Below.refl _ _, fun j x hj => absurd hj (by omega)⟩
      case round =>
        obtain ⟨k, hk, rfl, rfl, hB, hA⟩ := hrel
        have HB := Lib.hid hB; have HA := Lib.hid hA
        have cf := (F1.out.after hB).cell
        have hsb : 0 ≤ sumI ((ps.take k).map Pe.p) ∧ sumI ((ps.take k).map Pe.p) ≤ 144 := by
          have hb : ∀ z ∈ (ps.take k).map Pe.p, 0 ≤ z ∧ z ≤ 24 := fun z hz => by
            obtain ⟨x, hx, rfl⟩ := List.mem_map.1 hz
            obtain ⟨j, hj, rfl⟩ := List.getElem_of_mem hx
            have hj2 : j < k ∧ j < ps.length := by simp at hj; omega
            have h := hA j ps[j] hj2.1 (List.getElem?_eq_getElem hj2.2)
            rw [List.getElem_take]
            simp only [peB, Bool.and_eq_true, inB, decide_eq_true_eq] at h
            omega
          have q1 := sumI_bd _ 24 (fun z hz => by have := hb z hz; omega)
          have q2 := sumI_nonneg _ (fun z hz => (hb z hz).1)
          have q3 : ((ps.take k).map Pe.p).length ≤ 6 := by simp; omega
          omega
        clear hB hA
        by_cases hkn : k < pn
        · have hkl : k < ps.length := by rw [HPN.out]; exact hkn
          have hx := List.getElem?_eq_getElem hkl
          obtain ⟨x, hxx⟩ : ∃ x, x = ps[k] := ⟨_, rfl⟩
          rw [← hxx] at hx
          have HX := Lib.hid hx
          have HT := Lib.hid (sum_take_pe hx)
          obtain ⟨b, o, he⟩ := HP.out.addr (by omega)
          subst he
          have hR := Lib.hid (((HP.out.keep B1.out).keep HB.out).range Pe.cs_len hx)
          obtain ⟨p, d, f⟩ := x
          replace hR := Lib.hid (show wr.rangeAt b (o + k * 3) [.int .i64 p, .int .i64 d, .int .i64 f] from hR.out)
          have HIp := Lib.hid fun (W : World) => refIn_c p 1 24 W
          have HId := Lib.hid fun (W : World) => coins_c d W
          have BX := Lib.hid (newB (nextB B1.out HB.out) (.cells #[.int .i64 p, .int .i64 d, .int .i64 f] 49))
          have BY := Lib.hid (newB HB.out (.cells #[.int .i64 p, .int .i64 d, .int .i64 f] 49))
          clear hx hxx
          cases h3 : inB p 1 24
          · have HE := Lib.hid (season_no (ls := ls) HX.out (show peB ⟨p, d, f⟩ = false by simp [peB, h3]))
            rw [h3] at HIp
            clear h3
            go_wp2_with (refine wpList_load_mid rfl 49 _ rfl b (o + k * 3) rfl _ _ hR.out Tryz.underlying49 rfl (by kernel_rfl) ?_)
            go_wp2_with (first
              | (go_at_call 82; refine (HIp.out _).mono ?_; rintro e w2 ⟨rfl, rfl⟩))
            exact bodyPost_ret (results_tmp rfl _ _ _) rfl ⟨by rw [HE.out]; rfl, BX.out⟩
          · cases h4 : inB d 0 100000
            · have HE := Lib.hid (season_no (ls := ls) HX.out (show peB ⟨p, d, f⟩ = false by simp [peB, h4]))
              rw [h3] at HIp
              rw [h4] at HId
              clear h3 h4
              go_wp2_with (refine wpList_load_mid rfl 49 _ rfl b (o + k * 3) rfl _ _ hR.out Tryz.underlying49 rfl (by kernel_rfl) ?_)
              go_wp2_with (first
                | (go_at_call 82; refine (HIp.out _).mono ?_; rintro e w2 ⟨rfl, rfl⟩)
                | (go_at_call 83; refine (HId.out _).mono ?_; rintro e w2 ⟨rfl, rfl⟩))
              exact bodyPost_ret (results_tmp rfl _ _ _) rfl ⟨by rw [HE.out]; rfl, BX.out⟩
            · by_cases h5 : f < 1
              · have HE := Lib.hid (season_no (ls := ls) HX.out (show peB ⟨p, d, f⟩ = false by simp [peB, inB]; omega))
                rw [h3] at HIp
                rw [h4] at HId
                clear h3 h4
                go_wp2_with (refine wpList_load_mid rfl 49 _ rfl b (o + k * 3) rfl _ _ hR.out Tryz.underlying49 rfl (by kernel_rfl) ?_)
                go_wp2_with (first
                  | (go_at_call 82; refine (HIp.out _).mono ?_; rintro e w2 ⟨rfl, rfl⟩)
                  | (go_at_call 83; refine (HId.out _).mono ?_; rintro e w2 ⟨rfl, rfl⟩))
                exact bodyPost_ret (results_tmp rfl _ _ _) rfl ⟨by rw [HE.out]; rfl, BX.out⟩
              · by_cases h6 : 3 < f
                · have HE := Lib.hid (season_no (ls := ls) HX.out (show peB ⟨p, d, f⟩ = false by simp [peB, inB]; omega))
                  rw [h3] at HIp
                  rw [h4] at HId
                  clear h3 h4
                  go_wp2_with (refine wpList_load_mid rfl 49 _ rfl b (o + k * 3) rfl _ _ hR.out Tryz.underlying49 rfl (by kernel_rfl) ?_)
                  go_wp2_with (first
                    | (go_at_call 82; refine (HIp.out _).mono ?_; rintro e w2 ⟨rfl, rfl⟩)
                    | (go_at_call 83; refine (HId.out _).mono ?_; rintro e w2 ⟨rfl, rfl⟩))
                  exact bodyPost_ret (results_tmp rfl _ _ _) rfl ⟨by rw [HE.out]; rfl, BX.out⟩
                · have hp24 : 1 ≤ p ∧ p ≤ 24 := by simpa [inB] using h3
                  have HN := Lib.hid (show ∀ (j : Nat) x, j < k + 1 → ps[j]? = some x → peB x = true from all_next HA.out HX.out (by simp only [peB, h3, h4]; simp [inB]; omega))
                  rw [h3] at HIp
                  rw [h4] at HId
                  clear h3 h4
                  simp only at HT
                  generalize sumI ((ps.take k).map Pe.p) = S at *
                  have e1 : wrap64 (S + p) = S + p := w64 (by omega) (by omega)
                  go_wp2_with (refine wpList_load_mid rfl 49 _ rfl b (o + k * 3) rfl _ _ hR.out Tryz.underlying49 rfl (by kernel_rfl) ?_)
                  go_wp2_with (first
                    | (go_at_call 82; refine (HIp.out _).mono ?_; rintro e w2 ⟨rfl, rfl⟩)
                    | (go_at_call 83; refine (HId.out _).mono ?_; rintro e w2 ⟨rfl, rfl⟩))
                  go_roundw
                  case rel => exact ⟨k + 1, by omega, by go_num, by rw [HT.out], BY.out, HN.out⟩
                  case measure => first | (simp [intOf]; done) | (simp [intOf]; omega)
        · have hke : k = pn := by omega
          subst hke
          have HAP := Lib.hid (show ps.all peB = true from all_take HPN.out HA.out (Nat.le_refl _))
          have HTe := Lib.hid (show ps.take k = ps from List.take_of_length_le (by rw [HPN.out]; exact Nat.le_refl _))
          rw [HTe.out] at hsb
          rw [HTe.out]
          clear HA
          have BA := Lib.hid HB.out
          generalize wr = wa at *
          go_wp2
          go_loopw [6] (fun i wr => ∃ j : Nat, j ≤ ln ∧ i = .int .i64 j ∧ Below w1.heap.size w1 wr ∧ (∀ (t : Nat) x, t < j → ls[t]? = some x → laB k x = true)) (fun i _ => ln - (intOf i).toNat)
          case atStart => exact ⟨0, by omega, rfl, BA.out, fun j x hj => absurd hj (by omega)⟩
          case round =>
            obtain ⟨j, hj, rfl, hB, hA⟩ := hrel
            have HB := Lib.hid hB; have HA := Lib.hid hA
            have cfj := (F1.out.after hB).cell
            clear hB hA cf
            by_cases hjn : j < ln
            · have hjl : j < ls.length := by rw [HLN.out]; exact hjn
              have hy := List.getElem?_eq_getElem hjl
              obtain ⟨y, hyy⟩ : ∃ y, y = ls[j] := ⟨_, rfl⟩
              rw [← hyy] at hy
              have HY := Lib.hid hy
              obtain ⟨b, o, he⟩ := HL.out.addr (by omega)
              subst he
              have hR := Lib.hid (((HL.out.keep B1.out).keep HB.out).range La.cs_len hy)
              obtain ⟨g, c, m⟩ := y
              replace hR := Lib.hid (show wr.rangeAt b (o + j * 3) [.int .i64 g, .int .i64 c, .int .i64 m] from hR.out)
              have FZ := Lib.hid ((F1.out.after HB.out).alloc (.cells #[.int .i64 g, .int .i64 c, .int .i64 m] 44))
              have cz0 : (wr.alloc (.cells #[.int .i64 g, .int .i64 c, .int .i64 m] 44)).cell? ⟨w.heap.size, 0, none⟩ = some (.slice pA k pc) := FZ.out.cell 0
              have hzlt : w.heap.size < wr.heap.size := (F1.out.after HB.out).lt
              have HIc := Lib.hid fun (v : Int) (b : Bool) (hv : inB v 0 100000 = b) (W : World) => (show Calls Tryz.prog 83 #[.int .i64 v] W fun e w' => e = .returned (.bool b) ∧ W = w' from by rw [← hv]; exact coins_c v W)
              have HIm := Lib.hid fun (W : World) => refSet_c m k (by omega) W
              have BX := Lib.hid (newB (nextB B1.out HB.out) (.cells #[.int .i64 g, .int .i64 c, .int .i64 m] 44))
              have BY := Lib.hid (newB HB.out (.cells #[.int .i64 g, .int .i64 c, .int .i64 m] 44))
              clear hy hyy
              have key : ∀ v, laB k ⟨g, c, m⟩ = v → (v = false → seasonB ps ls = false) := fun v hv hf => by
                subst hf
                exact season_no2 HY.out (by rw [HPN.out]; exact hv)
              have KEY := Lib.hid key
              clear key
              cases h3 : inB g 0 100000
              · have HE := Lib.hid (KEY.out false (by simp [laB, h3]) rfl)
                have H3 := Lib.hid h3
                clear h3
                go_wp2_with (refine wpList_load_mid rfl 44 _ rfl b (o + j * 3) rfl _ _ hR.out Tryz.underlying44 rfl (by kernel_rfl) ?_)
                go_wp2_with (first
                  | (go_at_call 83; refine (HIc.out g _ H3.out _).mono ?_; rintro e w2 ⟨rfl, rfl⟩))
                exact bodyPost_ret (results_tmp rfl _ _ _) rfl ⟨by rw [HE.out]; rfl, BX.out⟩
              · cases h4 : inB c 0 100000
                · have HE := Lib.hid (KEY.out false (by simp [laB, h4]) rfl)
                  have H3 := Lib.hid h3
                  have H4 := Lib.hid h4
                  clear h3 h4
                  go_wp2_with (refine wpList_load_mid rfl 44 _ rfl b (o + j * 3) rfl _ _ hR.out Tryz.underlying44 rfl (by kernel_rfl) ?_)
                  go_wp2_with (first
                    | (go_at_call 83; (first | (with_reducible refine (HIc.out g _ H3.out _).mono ?_) | (with_reducible refine (HIc.out c _ H4.out _).mono ?_)); rintro e w2 ⟨rfl, rfl⟩))
                  exact bodyPost_ret (results_tmp rfl _ _ _) rfl ⟨by rw [HE.out]; rfl, BX.out⟩
                · cases h5 : inB m 0 (2 ^ k - 1)
                  · have HE := Lib.hid (KEY.out false (by simp [laB, h5]) rfl)
                    have H3 := Lib.hid h3
                    have H4 := Lib.hid h4
                    rw [h5] at HIm
                    clear h3 h4 h5
                    go_wp2_with (refine wpList_load_mid rfl 44 _ rfl b (o + j * 3) rfl _ _ hR.out Tryz.underlying44 rfl (by kernel_rfl) ?_)
                    go_wp2_with (first
                      | (go_at_call 83; (first | (with_reducible refine (HIc.out g _ H3.out _).mono ?_) | (with_reducible refine (HIc.out c _ H4.out _).mono ?_)); rintro e w2 ⟨rfl, rfl⟩)
                      | (go_at_call 84; refine (HIm.out _).mono ?_; rintro e w2 ⟨rfl, rfl⟩))
                    exact bodyPost_ret (results_tmp rfl _ _ _) rfl ⟨by rw [HE.out]; rfl, BX.out⟩
                  · have hm : 0 ≤ m ∧ m ≤ 2 ^ k - 1 := by simpa [inB] using h5
                    have hpw := pow_bd k (by omega)
                    have HIh := Lib.hid fun (W : World) => refHas_c m hm.1 (by omega) 0 (by omega) W
                    have HL1 := Lib.hid (show laB k ⟨g, c, m⟩ = hasB m 0 by simp [laB, h3, h4, h5])
                    have H3 := Lib.hid h3
                    have H4 := Lib.hid h4
                    rw [h5] at HIm
                    clear h3 h4 h5
                    cases h6 : hasB m 0
                    · have HE := Lib.hid (KEY.out false (by rw [HL1.out, h6]) rfl)
                      rw [h6] at HIh
                      clear h6
                      go_wp2_with (refine wpList_load_mid rfl 44 _ rfl b (o + j * 3) rfl _ _ hR.out Tryz.underlying44 rfl (by kernel_rfl) ?_)
                      go_wp2_with (first
                        | (go_at_call 83; (first | (with_reducible refine (HIc.out g _ H3.out _).mono ?_) | (with_reducible refine (HIc.out c _ H4.out _).mono ?_)); rintro e w2 ⟨rfl, rfl⟩)
                        | (go_at_call 84; refine (HIm.out _).mono ?_; rintro e w2 ⟨rfl, rfl⟩)
                        | (go_at_call 36; refine (HIh.out _).mono ?_; rintro e w2 ⟨rfl, rfl⟩))
                      exact bodyPost_ret (results_tmp rfl _ _ _) rfl ⟨by rw [HE.out]; rfl, BX.out⟩
                    · have HN := Lib.hid (show ∀ (t : Nat) x, t < j + 1 → ls[t]? = some x → laB k x = true from all_next HA.out HY.out (by rw [HL1.out, h6]))
                      rw [h6] at HIh
                      clear h6
                      go_wp2_with (refine wpList_load_mid rfl 44 _ rfl b (o + j * 3) rfl _ _ hR.out Tryz.underlying44 rfl (by kernel_rfl) ?_)
                      go_wp2_with (first
                        | (go_at_call 83; (first | (with_reducible refine (HIc.out g _ H3.out _).mono ?_) | (with_reducible refine (HIc.out c _ H4.out _).mono ?_)); rintro e w2 ⟨rfl, rfl⟩)
                        | (go_at_call 84; refine (HIm.out _).mono ?_; rintro e w2 ⟨rfl, rfl⟩)
                        | (go_at_call 36; refine (HIh.out _).mono ?_; rintro e w2 ⟨rfl, rfl⟩))
                      go_roundw
                      case rel => exact ⟨j + 1, by omega, by go_num, BY.out, HN.out⟩
                      case measure => first | (simp [intOf]; done) | (simp [intOf]; omega)
            · have hje : j = ln := by omega
              subst hje
              have HAL := Lib.hid (show ls.all (laB k) = true from all_take HLN.out HA.out (Nat.le_refl _))
              have hx0 : ∃ x, ps[0]? = some x := ⟨_, List.getElem?_eq_getElem (by rw [HPN.out]; omega)⟩
              obtain ⟨⟨p0, d0, f0⟩, hx0⟩ := hx0
              obtain ⟨b, o, he⟩ := HP.out.addr (by omega)
              subst he
              have q1 : wr.cell? ⟨b, o + 1, none⟩ = some (.int .i64 d0) := by
                have := ((HP.out.keep B1.out).keep HB.out).range Pe.cs_len hx0 1 _ rfl
                simpa using this
              have q2 : wr.cell? ⟨b, o + 2, none⟩ = some (.int .i64 f0) := by
                have := ((HP.out.keep B1.out).keep HB.out).range Pe.cs_len hx0 2 _ rfl
                simpa using this
              have HS := Lib.hid (show seasonB ps ls = (decide (sumI (ps.map Pe.p) ≤ 24) && (d0 == 0 && f0 == 1)) from by
                have hh : houseB ps = (d0 == 0 && f0 == 1) := by
                  cases ps with
                  | nil => simp at hx0
                  | cons z r => simp at hx0; subst hx0; rfl
                have hll : ls.length ≤ 6 := by rw [HLN.out]; omega
                unfold seasonB persB
                rw [HPN.out, H1.out, HAP.out, HAL.out, hh]
                simp [hll])
              clear hx0 HA
              have BZ := Lib.hid (nextB B1.out HB.out)
              generalize sumI (ps.map Pe.p) = S at *
              by_cases a1 : S ≤ 24
              · by_cases a2 : d0 = 0
                · subst a2
                  by_cases a3 : f0 = 1
                  · subst a3
                    go_wp2
                    exact bodyPost_ret (results_tmp rfl _ _ _) rfl ⟨by rw [HS.out]; simp [a1], BZ.out⟩
                  · have e3 : (f0 == 1) = false := by simp [a3]
                    go_wp2
                    exact bodyPost_ret (results_tmp rfl _ _ _) rfl ⟨by rw [HS.out]; simp [a1, a3], BZ.out⟩
                · have e2 : (d0 == 0) = false := by simp [a2]
                  go_wp2
                  exact bodyPost_ret (results_tmp rfl _ _ _) rfl ⟨by rw [HS.out]; simp [a1, a2], BZ.out⟩
              · go_wp2
                exact bodyPost_ret (results_tmp rfl _ _ _) rfl ⟨by rw [HS.out]; simp; intro h; omega, BZ.out⟩
end Go.Proofs
