/-
  What Print writes of a season is told again by Read, and the specification's comparison of seasons has its contract.
-/
import Derived.Test.YtplhaohcmhepbaaGreatDoorP14
import Derived.Test.YtplhaohcmhepbaaGreatDoorP6
import Derived.Test.YtplhaohcmhepbaaGreatDoorP8
import Derived.Test.YtplhaohcmhepbaaGreatDoorP9
import Derived.Test.YtplhaohcmhepbaaGreatDoorP15
namespace Go.Proofs
open Go.RowKit Go.Shelf
attribute [local go_sem ↓] Go.wp_at_zero Go.wp_at_succ

theorem eq49 (a b : Pe) (w : World) : (Op.equalIn 10000 49 (.agg a.cs.toArray) (.agg b.cs.toArray)).run Tryz.prog w = .ok (decide (a = b)) w := by
  rw [run_equalIn_struct _ _ _ _ _ (by kernel_rfl) (by kernel_rfl)]
  obtain ⟨a1, a2, a3⟩ := a
  obtain ⟨b1, b2, b3⟩ := b
  simp [go_sem, Op.eqFields, Tryz.underlying49, Program.fieldsOf, Pe.cs]
  repeat' split
  all_goals simp_all
theorem eq49t {x y : Pe} (h : x = y) (w : World) : (Op.equalIn 10000 49 (.agg #[.int .i64 x.p, .int .i64 x.d, .int .i64 x.f]) (.agg #[.int .i64 y.p, .int .i64 y.d, .int .i64 y.f])).run Tryz.prog w = .ok true w := by
  have := eq49 x y w
  rw [decide_eq_true h] at this
  exact this
theorem eq49f {x y : Pe} (h : x ≠ y) (w : World) : (Op.equalIn 10000 49 (.agg #[.int .i64 x.p, .int .i64 x.d, .int .i64 x.f]) (.agg #[.int .i64 y.p, .int .i64 y.d, .int .i64 y.f])).run Tryz.prog w = .ok false w := by
  have := eq49 x y w
  rw [decide_eq_false h] at this
  exact this
theorem eq44 (a b : La) (w : World) : (Op.equalIn 10000 44 (.agg a.cs.toArray) (.agg b.cs.toArray)).run Tryz.prog w = .ok (decide (a = b)) w := by
  rw [run_equalIn_struct _ _ _ _ _ (by kernel_rfl) (by kernel_rfl)]
  obtain ⟨a1, a2, a3⟩ := a
  obtain ⟨b1, b2, b3⟩ := b
  simp [go_sem, Op.eqFields, Tryz.underlying44, Program.fieldsOf, La.cs]
  repeat' split
  all_goals simp_all
theorem eq44t {x y : La} (h : x = y) (w : World) : (Op.equalIn 10000 44 (.agg #[.int .i64 x.g, .int .i64 x.c, .int .i64 x.w]) (.agg #[.int .i64 y.g, .int .i64 y.c, .int .i64 y.w])).run Tryz.prog w = .ok true w := by
  have := eq44 x y w
  rw [decide_eq_true h] at this
  exact this
theorem eq44f {x y : La} (h : x ≠ y) (w : World) : (Op.equalIn 10000 44 (.agg #[.int .i64 x.g, .int .i64 x.c, .int .i64 x.w]) (.agg #[.int .i64 y.g, .int .i64 y.c, .int .i64 y.w])).run Tryz.prog w = .ok false w := by
  have := eq44 x y w
  rw [decide_eq_false h] at this
  exact this
set_option maxHeartbeats 2000000 in
set_option maxRecDepth 20000 in
/-- The specification's comparison of two seasons. -/
theorem sameSeason_c (s t : Sv) (h1 : s.pn ≤ 1000000) (h2 : s.ln ≤ 1000000) (w : World) (hs : s.In w) (ht : t.In w) :
    Calls Tryz.prog 73 #[s.val, t.val] w fun e w' => e = .returned (.bool (decide (s.ps = t.ps ∧ s.ls = t.ls))) ∧ Below w.heap.size w w' := by
  obtain ⟨pA, lA, pn, pc, ln, lc, sps, sls⟩ := s
  obtain ⟨qA, mA, qn, qc, mn, mc, tps, tls⟩ := t
  obtain ⟨hp, hl⟩ := hs
  obtain ⟨hq, hm⟩ := ht
  simp only [Sv.val] at *
  have HP := Lib.hid hp; have HL := Lib.hid hl; have HQ := Lib.hid hq; have HM := Lib.hid hm
  have NP := Lib.hid hp.1; have NL := Lib.hid hl.1; have NQ := Lib.hid hq.1; have NM := Lib.hid hm.1
  clear hp hl hq hm
  have B1 := Lib.hid (newB (newB (Below.refl w.heap.size w) (.cells #[.slice pA pn pc, .slice lA ln lc] 25)) (.cells #[.slice qA qn qc, .slice mA mn mc] 25))
  have F1 := Lib.hid ((Has.new w 25 #[.slice pA pn pc, .slice lA ln lc]).alloc (.cells #[.slice qA qn qc, .slice mA mn mc] 25))
  have F2 := Lib.hid (Has.new' (w.alloc (.cells #[.slice pA pn pc, .slice lA ln lc] 25)) 25 #[.slice qA qn qc, .slice mA mn mc] (g := w.heap.size + 1) (by simp))
  by_cases hpn : pn = qn
  · subst hpn
    have i1 : ((pn : Int) != pn) = false := by simp
    by_cases hln : ln = mn
    · subst hln
      have i2 : ((ln : Int) != ln) = false := by simp
      go_enter Tryz.func73, Tryz.ntmps73
      go_wp2
      generalize (w.alloc (.cells #[.slice pA pn pc, .slice lA ln lc] 25)).alloc (.cells #[.slice qA pn qc, .slice mA ln mc] 25) = w1 at *
      go_loopw [5] (fun v wr => ∃ k : Nat, k ≤ pn ∧ v = .int .i64 k ∧ sps.take k = tps.take k ∧ Below w1.heap.size w1 wr) (fun v _ => pn - (intOf v).toNat)
      case atStart => exact ⟨0, by omega, rfl, rfl, Below.refl _ _⟩
      case round =>
        obtain ⟨k, hk, rfl, hT, hB⟩ := hrel
        have HT := Lib.hid hT; have HB := Lib.hid hB
        have cf1 := (F1.out.after hB).cell
        have cf2 := (F2.out.after hB).cell
        clear hT hB
        by_cases hkn : k < pn
        · have hkx : k < sps.length := by rw [NP.out]; exact hkn
          have hky : k < tps.length := by rw [NQ.out]; exact hkn
          obtain ⟨b1, o1, rfl⟩ := HP.out.addr (by omega)
          obtain ⟨b2, o2, rfl⟩ := HQ.out.addr (by omega)
          have hx := List.getElem?_eq_getElem hkx
          have hy := List.getElem?_eq_getElem hky
          have HTx := Lib.hid (List.take_append_getElem hkx); have HTy := Lib.hid (List.take_append_getElem hky)
          obtain ⟨x, hxx⟩ : ∃ x, x = sps[k] := ⟨_, rfl⟩
          obtain ⟨y, hyy⟩ : ∃ y, y = tps[k] := ⟨_, rfl⟩
          rw [← hxx] at hx HTx
          rw [← hyy] at hy HTy
          have C1 := Lib.hid fun (W : World) (hb : Below wr.heap.size wr W) => ((HP.out.keep (nextB B1.out (nextB HB.out hb))).range Pe.cs_len hx : W.rangeAt b1 (o1 + k * 3) x.cs)
          have C2 := Lib.hid fun (W : World) (hb : Below wr.heap.size wr W) => ((HQ.out.keep (nextB B1.out (nextB HB.out hb))).range Pe.cs_len hy : W.rangeAt b2 (o2 + k * 3) y.cs)
          have HD := Lib.hid (show x ≠ y → sps ≠ tps from fun h e => h (by rw [e, hy] at hx; exact (Option.some.inj hx).symm))
          clear hx hy hxx hyy
          go_wp2
          by_cases hxy : x = y
          · have e1 := fun W => eq49t hxy W
            apply wp_loose 11 [.v _, .v _, .v _, .v _, .v _, .v _, .v _, .v _, .v _, .v _, .v (.bool false)] (by kernel_rfl) (by kernel_rfl) (by kernel_rfl) (by decide) rfl
            intro K hK
            iterate 4 (apply OblS.val rfl; (intro w' hb _; have c1 := (F1.out.after (nextB HB.out hb)).cell; go_simp; rfl))
            simp only [Act.put, List.setIfInBounds_toArray, List.set_cons_zero, List.set_cons_succ]
            refine OblS.mid rfl 49 _ rfl b1 (o1 + k * 3) rfl [.int .i64 x.p, .int .i64 x.d, .int .i64 x.f] _ (fun W hb => C1.out W hb) Tryz.underlying49 rfl (by kernel_rfl) ?_
            iterate 4 (apply OblS.val rfl; (intro w' hb _; have c2 := (F2.out.after (nextB HB.out hb)).cell; go_simp; rfl))
            simp only [Act.put, List.setIfInBounds_toArray, List.set_cons_zero, List.set_cons_succ]
            refine OblS.mid rfl 49 _ rfl b2 (o2 + k * 3) rfl [.int .i64 y.p, .int .i64 y.d, .int .i64 y.f] _ (fun W hb => C2.out W hb) Tryz.underlying49 rfl (by kernel_rfl) ?_
            apply OblS.val rfl
            · intro w' hb _; go_simp
            apply OblS.nil
            apply hK
            intro w2 hb hH
            have B2 := Lib.hid (nextB HB.out hb)
            clear hH hK K hb
            simp only [Act.put, List.setIfInBounds_toArray, List.set_cons_zero, List.set_cons_succ, List.drop_succ_cons, List.drop_zero]
            go_wp2
            go_roundw
            case rel => exact ⟨k + 1, by omega, by go_num, by rw [← HTx.out, ← HTy.out, HT.out, hxy], B2.out⟩
            case measure => first | (simp [intOf]; done) | (simp [intOf]; omega)
          · have e1 := fun W => eq49f hxy W
            have HF := Lib.hid (show decide (sps = tps ∧ sls = tls) = false from decide_eq_false (fun h => HD.out hxy h.1))
            clear hxy
            apply wp_loose 11 [.v _, .v _, .v _, .v _, .v _, .v _, .v _, .v _, .v _, .v _, .v (.bool true)] (by kernel_rfl) (by kernel_rfl) (by kernel_rfl) (by decide) rfl
            intro K hK
            iterate 4 (apply OblS.val rfl; (intro w' hb _; have c1 := (F1.out.after (nextB HB.out hb)).cell; go_simp; rfl))
            simp only [Act.put, List.setIfInBounds_toArray, List.set_cons_zero, List.set_cons_succ]
            refine OblS.mid rfl 49 _ rfl b1 (o1 + k * 3) rfl [.int .i64 x.p, .int .i64 x.d, .int .i64 x.f] _ (fun W hb => C1.out W hb) Tryz.underlying49 rfl (by kernel_rfl) ?_
            iterate 4 (apply OblS.val rfl; (intro w' hb _; have c2 := (F2.out.after (nextB HB.out hb)).cell; go_simp; rfl))
            simp only [Act.put, List.setIfInBounds_toArray, List.set_cons_zero, List.set_cons_succ]
            refine OblS.mid rfl 49 _ rfl b2 (o2 + k * 3) rfl [.int .i64 y.p, .int .i64 y.d, .int .i64 y.f] _ (fun W hb => C2.out W hb) Tryz.underlying49 rfl (by kernel_rfl) ?_
            apply OblS.val rfl
            · intro w' hb _; go_simp
            apply OblS.nil
            apply hK
            intro w2 hb hH
            have B2 := Lib.hid (nextB HB.out hb)
            clear hH hK K hb
            simp only [Act.put, List.setIfInBounds_toArray, List.set_cons_zero, List.set_cons_succ, List.drop_succ_cons, List.drop_zero]
            go_wp2
            exact bodyPost_ret (results_tmp rfl _ _ _) rfl ⟨by rw [HF.out]; rfl, nextB B1.out B2.out⟩
        · have hke : k = pn := by omega
          subst hke
          have HEP := Lib.hid (show sps = tps from by
            have := HT.out
            rwa [List.take_of_length_le (by rw [NP.out]; exact Nat.le_refl _), List.take_of_length_le (by rw [NQ.out]; exact Nat.le_refl _)] at this)
          have HBa := Lib.hid HB.out
          clear HT HB
          generalize wr = wa at *
          go_wp2
          go_loopw [6] (fun v wr => ∃ j : Nat, j ≤ ln ∧ v = .int .i64 j ∧ sls.take j = tls.take j ∧ Below w1.heap.size w1 wr) (fun v _ => ln - (intOf v).toNat)
          case atStart => exact ⟨0, by omega, rfl, rfl, HBa.out⟩
          case round =>
            obtain ⟨j, hj, rfl, hT, hB⟩ := hrel
            have HT := Lib.hid hT; have HB := Lib.hid hB
            clear cf1 cf2
            have cf1 := (F1.out.after hB).cell
            have cf2 := (F2.out.after hB).cell
            clear hT hB
            by_cases hkn : j < ln
            · have hkx : j < sls.length := by rw [NL.out]; exact hkn
              have hky : j < tls.length := by rw [NM.out]; exact hkn
              obtain ⟨b1, o1, rfl⟩ := HL.out.addr (by omega)
              obtain ⟨b2, o2, rfl⟩ := HM.out.addr (by omega)
              have hx := List.getElem?_eq_getElem hkx
              have hy := List.getElem?_eq_getElem hky
              have HTx := Lib.hid (List.take_append_getElem hkx); have HTy := Lib.hid (List.take_append_getElem hky)
              obtain ⟨x, hxx⟩ : ∃ x, x = sls[j] := ⟨_, rfl⟩
              obtain ⟨y, hyy⟩ : ∃ y, y = tls[j] := ⟨_, rfl⟩
              rw [← hxx] at hx HTx
              rw [← hyy] at hy HTy
              have C1 := Lib.hid fun (W : World) (hb : Below wr.heap.size wr W) => ((HL.out.keep (nextB B1.out (nextB HB.out hb))).range La.cs_len hx : W.rangeAt b1 (o1 + j * 3) x.cs)
              have C2 := Lib.hid fun (W : World) (hb : Below wr.heap.size wr W) => ((HM.out.keep (nextB B1.out (nextB HB.out hb))).range La.cs_len hy : W.rangeAt b2 (o2 + j * 3) y.cs)
              have HD := Lib.hid (show x ≠ y → sls ≠ tls from fun h e => h (by rw [e, hy] at hx; exact (Option.some.inj hx).symm))
              clear hx hy hxx hyy
              go_wp2
              by_cases hxy : x = y
              · have e1 := fun W => eq44t hxy W
                apply wp_loose 11 [.v _, .v _, .v _, .v _, .v _, .v _, .v _, .v _, .v _, .v _, .v (.bool false)] (by kernel_rfl) (by kernel_rfl) (by kernel_rfl) (by decide) rfl
                intro K hK
                iterate 4 (apply OblS.val rfl; (intro w' hb _; have c1 := (F1.out.after (nextB HB.out hb)).cell; go_simp; rfl))
                simp only [Act.put, List.setIfInBounds_toArray, List.set_cons_zero, List.set_cons_succ]
                refine OblS.mid rfl 44 _ rfl b1 (o1 + j * 3) rfl [.int .i64 x.g, .int .i64 x.c, .int .i64 x.w] _ (fun W hb => C1.out W hb) Tryz.underlying44 rfl (by kernel_rfl) ?_
                iterate 4 (apply OblS.val rfl; (intro w' hb _; have c2 := (F2.out.after (nextB HB.out hb)).cell; go_simp; rfl))
                simp only [Act.put, List.setIfInBounds_toArray, List.set_cons_zero, List.set_cons_succ]
                refine OblS.mid rfl 44 _ rfl b2 (o2 + j * 3) rfl [.int .i64 y.g, .int .i64 y.c, .int .i64 y.w] _ (fun W hb => C2.out W hb) Tryz.underlying44 rfl (by kernel_rfl) ?_
                apply OblS.val rfl
                · intro w' hb _; go_simp
                apply OblS.nil
                apply hK
                intro w2 hb hH
                have B2 := Lib.hid (nextB HB.out hb)
                clear hH hK K hb
                simp only [Act.put, List.setIfInBounds_toArray, List.set_cons_zero, List.set_cons_succ, List.drop_succ_cons, List.drop_zero]
                go_wp2
                go_roundw
                case rel => exact ⟨j + 1, by omega, by go_num, by rw [← HTx.out, ← HTy.out, HT.out, hxy], B2.out⟩
                case measure => first | (simp [intOf]; done) | (simp [intOf]; omega)
              · have e1 := fun W => eq44f hxy W
                have HF := Lib.hid (show decide (sps = tps ∧ sls = tls) = false from decide_eq_false (fun h => HD.out hxy h.2))
                clear hxy
                apply wp_loose 11 [.v _, .v _, .v _, .v _, .v _, .v _, .v _, .v _, .v _, .v _, .v (.bool true)] (by kernel_rfl) (by kernel_rfl) (by kernel_rfl) (by decide) rfl
                intro K hK
                iterate 4 (apply OblS.val rfl; (intro w' hb _; have c1 := (F1.out.after (nextB HB.out hb)).cell; go_simp; rfl))
                simp only [Act.put, List.setIfInBounds_toArray, List.set_cons_zero, List.set_cons_succ]
                refine OblS.mid rfl 44 _ rfl b1 (o1 + j * 3) rfl [.int .i64 x.g, .int .i64 x.c, .int .i64 x.w] _ (fun W hb => C1.out W hb) Tryz.underlying44 rfl (by kernel_rfl) ?_
                iterate 4 (apply OblS.val rfl; (intro w' hb _; have c2 := (F2.out.after (nextB HB.out hb)).cell; go_simp; rfl))
                simp only [Act.put, List.setIfInBounds_toArray, List.set_cons_zero, List.set_cons_succ]
                refine OblS.mid rfl 44 _ rfl b2 (o2 + j * 3) rfl [.int .i64 y.g, .int .i64 y.c, .int .i64 y.w] _ (fun W hb => C2.out W hb) Tryz.underlying44 rfl (by kernel_rfl) ?_
                apply OblS.val rfl
                · intro w' hb _; go_simp
                apply OblS.nil
                apply hK
                intro w2 hb hH
                have B2 := Lib.hid (nextB HB.out hb)
                clear hH hK K hb
                simp only [Act.put, List.setIfInBounds_toArray, List.set_cons_zero, List.set_cons_succ, List.drop_succ_cons, List.drop_zero]
                go_wp2
                exact bodyPost_ret (results_tmp rfl _ _ _) rfl ⟨by rw [HF.out]; rfl, nextB B1.out B2.out⟩
            · have hje : j = ln := by omega
              subst hje
              have HF := Lib.hid (show decide (sps = tps ∧ sls = tls) = true from decide_eq_true ⟨HEP.out, by
                have := HT.out
                rwa [List.take_of_length_le (by rw [NL.out]; exact Nat.le_refl _), List.take_of_length_le (by rw [NM.out]; exact Nat.le_refl _)] at this⟩)
              go_wp2
              exact bodyPost_ret (results_tmp rfl _ _ _) rfl ⟨by rw [HF.out]; rfl, nextB B1.out HB.out⟩
    · have HF := Lib.hid (show decide (sps = tps ∧ sls = tls) = false from decide_eq_false (by rintro ⟨_, rfl⟩; exact hln (NL.out.symm.trans NM.out)))
      have i2 : ((ln : Int) != mn) = true := by rw [bne_iff_ne]; omega
      go_enter Tryz.func73, Tryz.ntmps73
      go_wp2
      exact bodyPost_ret (results_tmp rfl _ _ _) rfl ⟨by rw [HF.out]; rfl, B1.out⟩
  · have HF := Lib.hid (show decide (sps = tps ∧ sls = tls) = false from decide_eq_false (by rintro ⟨rfl, _⟩; exact hpn (NP.out.symm.trans NQ.out)))
    have i1 : ((pn : Int) != qn) = true := by rw [bne_iff_ne]; omega
    go_enter Tryz.func73, Tryz.ntmps73
    go_wp2
    exact bodyPost_ret (results_tmp rfl _ _ _) rfl ⟨by rw [HF.out]; rfl, B1.out⟩
end Go.Proofs
namespace Go.Proofs
open Go.RowKit Go.Shelf

theorem pieces_sep (c : UInt8) (b : List UInt8) : ∀ (a : List UInt8), c ∉ a → pieces c (a ++ c :: b) = a :: pieces c b
  | [], _ => by simp [pieces]
  | x :: r, h => by
    have hx : (x == c) = false := by rw [beq_eq_false_iff_ne]; rintro rfl; exact h (List.mem_cons_self ..)
    have ih := pieces_sep c b r (fun hm => h (List.mem_cons_of_mem _ hm))
    simp only [List.cons_append, pieces, hx, ih, Bool.false_eq_true, if_false]
theorem pieces_nosep (c : UInt8) : ∀ (a : List UInt8), c ∉ a → pieces c a = [a]
  | [], _ => rfl
  | x :: r, h => by
    have hx : (x == c) = false := by rw [beq_eq_false_iff_ne]; rintro rfl; exact h (List.mem_cons_self ..)
    have ih := pieces_nosep c r (fun hm => h (List.mem_cons_of_mem _ hm))
    simp only [pieces, hx, ih, Bool.false_eq_true, if_false]
theorem dgt_dig (m : Nat) : digB (dgt m) = true ∧ ((dgt m).toNat : Int) - 48 = ((m % 10 : Nat) : Int) := by
  have : (dgt m).toNat = 48 + m % 10 := by unfold dgt; rw [UInt8.toNat_ofNat']; omega
  refine ⟨?_, by omega⟩
  simp only [digB, this, decide_eq_true_eq]; omega
theorem dec_dig (m : Nat) : (Lib.decDigits m).all digB = true ∧ numV (Lib.decDigits m) = m := by
  induction m using Nat.strongRecOn with
  | _ m ih =>
    have hd := dgt_dig m
    rw [dec_split m]
    by_cases h : m < 10
    · rw [if_pos h]
      refine ⟨by simp [hd.1], ?_⟩
      rw [List.nil_append, show [dgt m] = [] ++ [dgt m] from rfl, numV_snoc, hd.2]
      simp [numV]; omega
    · rw [if_neg h]
      obtain ⟨h1, h2⟩ := ih (m / 10) (by omega)
      refine ⟨by simp [h1, hd.1], ?_⟩
      rw [numV_snoc, h2, hd.2]; omega
theorem itoa_nat (m : Nat) : Lib.itoa (m : Int) = Lib.decDigits m := by
  rw [Lib.itoa, if_neg (by omega)]; rfl
theorem itoa_num {x : Int} (h : 0 ≤ x) : numV (Lib.itoa x) = x := by
  obtain ⟨m, rfl⟩ := Int.eq_ofNat_of_zero_le h
  rw [itoa_nat]; exact (dec_dig m).2
theorem itoa_dig {x : Int} (h : 0 ≤ x) : (Lib.itoa x).all digB = true := by
  obtain ⟨m, rfl⟩ := Int.eq_ofNat_of_zero_le h
  rw [itoa_nat]; exact (dec_dig m).1
theorem itoa_free {x : Int} (h : 0 ≤ x) {c : UInt8} (hc : digB c = false) : c ∉ Lib.itoa x := by
  intro hm
  have := List.all_eq_true.1 (itoa_dig h) c hm
  rw [hc] at this; cases this
theorem itoa_word {x : Int} (h : 0 ≤ x ∧ x < 1000000) : wordB (Lib.itoa x) = true := by
  simp only [wordB, Bool.and_eq_true]
  refine ⟨?_, itoa_dig h.1⟩
  have h1 := itoa_pos h.1
  have h2 := itoa_len h.1 6 (by have : ((10 ^ 6 : Nat) : Int) = 1000000 := by decide
                                omega) (by omega)
  simp only [inB, decide_eq_true_eq]; omega
theorem line_cons (x : List UInt8) (y : List UInt8) (r : List (List UInt8)) : lineL (x :: y :: r) = x ++ 32 :: lineL (y :: r) := by
  unfold lineL
  rw [Lib.join_cons, Lib.join_cons]
  simp [Lib.joinTail]
/-- The words of a line are its pieces. -/
theorem pieces_line : ∀ (ws : List (List UInt8)), ws ≠ [] → (∀ x ∈ ws, (32 : UInt8) ∉ x) → pieces 32 (lineL ws) = ws
  | [], h, _ => absurd rfl h
  | [x], _, h => by
    have : lineL [x] = x := by unfold lineL; rw [Lib.join_one]
    rw [this, pieces_nosep 32 x (h x (by simp))]
  | x :: y :: r, _, h => by
    rw [line_cons, pieces_sep 32 _ x (h x (by simp)), pieces_line (y :: r) (by simp) (fun z hz => h z (List.mem_cons_of_mem _ hz))]
theorem line_free {c : UInt8} (h32 : c ≠ 32) : ∀ (ws : List (List UInt8)), (∀ x ∈ ws, c ∉ x) → c ∉ lineL ws
  | [], _ => by simp [lineL, Lib.join_nil]
  | [x], h => by
    have : lineL [x] = x := by unfold lineL; rw [Lib.join_one]
    rw [this]; exact h x (by simp)
  | x :: y :: r, h => by
    rw [line_cons]
    simp only [List.mem_append, List.mem_cons, not_or]
    exact ⟨h x (by simp), h32, line_free h32 (y :: r) (fun z hz => h z (List.mem_cons_of_mem _ hz))⟩
/-- The lines of a text are its pieces. -/
theorem pieces_fed : ∀ (ls : List (List UInt8)) (z : List UInt8), (∀ l ∈ ls, (10 : UInt8) ∉ l) → pieces 10 (fedL ls ++ z) = ls ++ pieces 10 z
  | [], z, _ => by simp [fedL]
  | l :: r, z, h => by
    have e : fedL (l :: r) ++ z = l ++ 10 :: (fedL r ++ z) := by simp [fedL]
    rw [e, pieces_sep 10 _ l (h l (by simp)), pieces_fed r z (fun y hy => h y (List.mem_cons_of_mem _ hy))]
    rfl

/-- A season of which a text can be read again. -/
def PeS (p : Pe) : Prop := (0 ≤ p.p ∧ p.p < 1000000) ∧ (0 ≤ p.d ∧ p.d < 1000000) ∧ (p.f = 1 ∨ p.f = 2 ∨ p.f = 3)
def LaS (l : La) : Prop := (0 ≤ l.g ∧ l.g < 1000000) ∧ (0 ≤ l.c ∧ l.c < 1000000) ∧ (0 ≤ l.w ∧ l.w < 1024)
theorem fate_word {f : Int} (h : f = 1 ∨ f = 2 ∨ f = 3) : fateW (wordF f) = f := by
  rcases h with rfl | rfl | rfl <;> decide +kernel
theorem word_free {f : Int} (h : f = 1 ∨ f = 2 ∨ f = 3) : (32 : UInt8) ∉ wordF f ∧ (10 : UInt8) ∉ wordF f := by
  rcases h with rfl | rfl | rfl <;> decide
theorem perL_words {p : Pe} (h : PeS p) : pieces 32 (perL p) = [wPerson, Lib.itoa p.p, Lib.itoa p.d, wordF p.f] := by
  unfold perL
  refine pieces_line _ (by simp) (fun x hx => ?_)
  simp only [List.mem_cons, List.not_mem_nil, or_false] at hx
  rcases hx with rfl | rfl | rfl | rfl
  · decide
  · exact itoa_free h.1.1 (by decide)
  · exact itoa_free h.2.1.1 (by decide)
  · exact (word_free h.2.2).1
theorem per_step {p : Pe} (h : PeS p) (a : List Pe × List La) : stepT a (perL p) = some (a.1 ++ [p], a.2) := by
  unfold stepT
  rw [perL_words h]
  simp only [List.length_cons, List.length_nil, Nat.zero_add, Nat.reduceAdd, and_self, if_true]
  unfold parseP
  have hf := fate_word h.2.2
  have hf0 : ¬ p.f = 0 := by have := h.2.2; omega
  simp only [itoa_word h.1, itoa_word h.2.1, hf, itoa_num h.1.1, itoa_num h.2.1.1]
  simp [hf0]
theorem ints_who {s x : Int} (h1 : s < 1024) (h0 : 0 ≤ s) (h : x ∈ ints (membersL s)) : 0 ≤ x ∧ x ≤ 9 := by
  unfold ints at h
  obtain ⟨k, hk, rfl⟩ := List.mem_map.1 h
  have := members_lt (n := 10) h0 (by have : (2 : Int) ^ 10 = 1024 := by decide
                                      omega) k hk
  omega
theorem landW_words {l : La} (h : LaS l) : pieces 32 (landL l) = landW l := by
  unfold landL
  refine pieces_line _ (by simp [landW]) (fun x hx => ?_)
  simp only [landW, List.mem_append, List.mem_cons, List.not_mem_nil, or_false, List.mem_map] at hx
  rcases hx with (rfl | rfl | rfl) | ⟨k, hk, rfl⟩
  · decide
  · exact itoa_free h.1.1 (by decide)
  · exact itoa_free h.2.1.1 (by decide)
  · exact itoa_free (ints_who h.2.2.2 h.2.2.1 hk).1 (by decide)
theorem or_members : ∀ n : Fin 1024, orL 0 (ints (membersL ((n : Nat) : Int))) = ((n : Nat) : Int) := by decide +kernel
theorem land_step {l : La} (h : LaS l) (a : List Pe × List La) : stepT a (landL l) = some (a.1, a.2 ++ [l]) := by
  unfold stepT
  rw [landW_words h]
  have hne : ¬ (wLanding = wPerson) := by decide
  have hlen : 2 ≤ (Lib.itoa l.g :: Lib.itoa l.c :: (ints (membersL l.w)).map Lib.itoa).length := by simp
  have e : landW l = wLanding :: Lib.itoa l.g :: Lib.itoa l.c :: (ints (membersL l.w)).map Lib.itoa := rfl
  rw [e]
  simp only [hne, false_and, if_false, hlen, and_self, if_true]
  unfold parseLa
  have hw : ((ints (membersL l.w)).map Lib.itoa).all whoB = true := by
    rw [List.all_eq_true]
    intro x hx
    obtain ⟨k, hk, rfl⟩ := List.mem_map.1 hx
    have hb := ints_who h.2.2.2 h.2.2.1 hk
    unfold whoB
    rw [itoa_word ⟨hb.1, by omega⟩, itoa_num hb.1]
    simp; omega
  have hn : ((ints (membersL l.w)).map Lib.itoa).map numV = ints (membersL l.w) := by
    rw [List.map_map]
    conv => rhs; rw [← List.map_id (ints (membersL l.w))]
    apply List.map_congr_left
    intro k hk
    exact itoa_num (ints_who h.2.2.2 h.2.2.1 hk).1
  have ho : orL 0 (ints (membersL l.w)) = l.w := by
    have := or_members ⟨l.w.toNat, by have := h.2.2; omega⟩
    simp only at this
    rwa [Int.toNat_of_nonneg h.2.2.1] at this
  simp only [itoa_word h.1, itoa_word h.2.1, hw, hn, ho, itoa_num h.1.1, itoa_num h.2.1.1]
  simp
theorem other_step {ws : List (List UInt8)} {w0 : List UInt8} (a : List Pe × List La) (hf : ∀ x ∈ w0 :: ws, (32 : UInt8) ∉ x) (h1 : w0 ≠ wPerson) (h2 : w0 ≠ wLanding) : stepT a (lineL (w0 :: ws)) = some a := by
  unfold stepT
  rw [pieces_line _ (by simp) hf]
  simp [h1, h2]
theorem fold_per : ∀ (ps : List Pe) (a : List Pe × List La), (∀ p ∈ ps, PeS p) → foldT (ps.map perL) a = some (a.1 ++ ps, a.2)
  | [], a, _ => by simp [foldT]
  | p :: r, a, h => by
    simp only [List.map_cons, foldT, per_step (h p (by simp)), Option.bind_some]
    rw [fold_per r _ (fun y hy => h y (List.mem_cons_of_mem _ hy))]
    simp
theorem fold_land : ∀ (ls : List La) (a : List Pe × List La), (∀ l ∈ ls, LaS l) → foldT (ls.map landL) a = some (a.1, a.2 ++ ls)
  | [], a, _ => by simp [foldT]
  | p :: r, a, h => by
    simp only [List.map_cons, foldT, land_step (h p (by simp)), Option.bind_some]
    rw [fold_land r _ (fun y hy => h y (List.mem_cons_of_mem _ hy))]
    simp
theorem foldT_append : ∀ (xs ys : List (List UInt8)) (a : List Pe × List La), foldT (xs ++ ys) a = (foldT xs a).bind (foldT ys)
  | [], ys, a => by simp [foldT]
  | x :: r, ys, a => by
    simp only [List.cons_append, foldT]
    cases stepT a x with
    | none => rfl
    | some b => simp only [Option.bind_some]; exact foldT_append r ys b
theorem linesF_free {ps : List Pe} {ls : List La} (hp : ∀ p ∈ ps, PeS p) (hl : ∀ l ∈ ls, LaS l) : ∀ x ∈ linesF ps ls, (10 : UInt8) ∉ x := by
  intro x hx
  simp only [linesF, List.mem_cons, List.mem_append, List.mem_map] at hx
  rcases hx with rfl | ⟨p, hpm, rfl⟩ | ⟨l, hlm, rfl⟩
  · refine line_free (by decide) _ (fun y hy => ?_)
    simp only [List.mem_cons, List.not_mem_nil, or_false] at hy
    rcases hy with rfl | rfl | rfl
    · decide
    · exact itoa_free (by omega) (by decide)
    · exact itoa_free (by omega) (by decide)
  · have h := hp p hpm
    refine line_free (by decide) _ (fun y hy => ?_)
    simp only [List.mem_cons, List.not_mem_nil, or_false] at hy
    rcases hy with rfl | rfl | rfl | rfl
    · decide
    · exact itoa_free h.1.1 (by decide)
    · exact itoa_free h.2.1.1 (by decide)
    · exact (word_free h.2.2).2
  · have h := hl l hlm
    refine line_free (by decide) _ (fun y hy => ?_)
    simp only [landW, List.mem_append, List.mem_cons, List.not_mem_nil, or_false, List.mem_map] at hy
    rcases hy with (rfl | rfl | rfl) | ⟨k, hk, rfl⟩
    · decide
    · exact itoa_free h.1.1 (by decide)
    · exact itoa_free h.2.1.1 (by decide)
    · exact itoa_free (ints_who h.2.2.2 h.2.2.1 hk).1 (by decide)
theorem chkT_free (ls : List (List UInt8)) {c : UInt8} (hc : digB c = false) : c ∉ chkT ls := by
  unfold chkT
  intro h
  exact itoa_free (by omega) hc (List.mem_of_mem_drop h)
theorem text_pieces {ps : List Pe} {ls : List La} (hp : ∀ p ∈ ps, PeS p) (hl : ∀ l ∈ ls, LaS l) : pieces 10 (textF ps ls) = linesF ps ls ++ [endLF ps ls, []] := by
  have hf := linesF_free hp hl
  have he : (10 : UInt8) ∉ endLF ps ls := by
    refine line_free (by decide) _ (fun y hy => ?_)
    simp only [List.mem_cons, List.not_mem_nil, or_false] at hy
    rcases hy with rfl | rfl
    · decide
    · exact chkT_free _ (by decide)
  unfold textF
  rw [join_fed _ (by simp)]
  have e : fedL (linesF ps ls ++ [endLF ps ls]) = fedL (linesF ps ls ++ [endLF ps ls]) ++ [] := by simp
  rw [e, pieces_fed _ [] (fun l hlm => ?_)]
  · simp [pieces]
  · simp only [List.mem_append, List.mem_cons, List.not_mem_nil, or_false] at hlm
    rcases hlm with h | rfl
    · exact hf l h
    · exact he
/-- What was written is told again. -/
theorem told_text {ps : List Pe} {ls : List La} (hp : ∀ p ∈ ps, PeS p) (hl : ∀ l ∈ ls, LaS l) : toldF (textF ps ls) = some (ps, ls) := by
  have hfold : foldT (pieces 10 (textF ps ls)) ([], []) = some (ps, ls) := by
    rw [text_pieces hp hl]
    have h1 : stepT ([], []) (headL ps.length ls.length) = some ([], []) := other_step _ (fun y hy => by
      simp only [List.mem_cons, List.not_mem_nil, or_false] at hy
      rcases hy with rfl | rfl | rfl
      · decide
      · exact itoa_free (by omega) (by decide)
      · exact itoa_free (by omega) (by decide)) (by decide) (by decide)
    have h2 : stepT (ps, ls) (endLF ps ls) = some (ps, ls) := other_step _ (fun y hy => by
      simp only [List.mem_cons, List.not_mem_nil, or_false] at hy
      rcases hy with rfl | rfl
      · decide
      · exact chkT_free _ (by decide)) (by decide) (by decide)
    have h3 : stepT (ps, ls) [] = some (ps, ls) := by
      unfold stepT
      rw [show pieces 32 ([] : List UInt8) = [[]] from rfl]
      have a1 : ¬ (([] : List UInt8) = wPerson) := by decide
      have a2 : ¬ (([] : List UInt8) = wLanding) := by decide
      simp [a1, a2]
    unfold linesF
    simp only [List.cons_append, foldT, h1, Option.bind_some, List.append_assoc]
    rw [foldT_append, fold_per ps _ hp, Option.bind_some, foldT_append, fold_land ls _ hl, Option.bind_some]
    simp only [List.nil_append, foldT, h2, h3, Option.bind_some]
  unfold toldF
  rw [hfold]
  simp
theorem Seas.peS {ps : List Pe} {ls : List La} (h : Seas ps ls) : ∀ p ∈ ps, PeS p := fun p hp => by
  have := h.pe p hp
  unfold PeS; omega
theorem Seas.laS {ps : List Pe} {ls : List La} (h : Seas ps ls) : ∀ l ∈ ls, LaS l := fun l hl => by
  have h1 := h.la l hl
  have h2 := h.w64 hl
  unfold LaS; omega
end Go.Proofs
namespace Go.Proofs
open Go.RowKit Go.Shelf

theorem line_length : ∀ (ws : List (List UInt8)), ws ≠ [] → (lineL ws).length + 1 = (ws.map fun x => x.length + 1).sum
  | [], h => absurd rfl h
  | [x], _ => by
    have : lineL [x] = x := by unfold lineL; rw [Lib.join_one]
    simp [this]
  | x :: y :: r, _ => by
    have ih := line_length (y :: r) (by simp)
    rw [line_cons]
    simp only [List.length_append, List.length_cons, List.map_cons, List.sum_cons] at ih ⊢
    omega
theorem fed_length : ∀ (ls : List (List UInt8)), (fedL ls).length = (ls.map fun x => x.length + 1).sum
  | [] => by simp [fedL]
  | l :: r => by
    have ih := fed_length r
    have e : fedL (l :: r) = l ++ 10 :: fedL r := by simp [fedL]
    rw [e]
    simp only [List.length_append, List.length_cons, List.map_cons, List.sum_cons]
    omega
theorem sum_le {α : Type} (f : α → Nat) (B : Nat) : ∀ (l : List α), (∀ x ∈ l, f x ≤ B) → (l.map f).sum ≤ l.length * B
  | [], _ => by simp
  | x :: r, h => by
    have ih := sum_le f B r (fun y hy => h y (List.mem_cons_of_mem _ hy))
    have h1 := h x (by simp)
    simp only [List.map_cons, List.sum_cons, List.length_cons, Nat.add_mul, Nat.one_mul]
    omega
theorem itoa1 {n : Int} (h : 0 ≤ n ∧ n < 10) : (Lib.itoa n).length ≤ 1 := itoa_len h.1 1 (by have : ((10 ^ 1 : Nat) : Int) = 10 := (by decide); omega) (by omega)
theorem itoa2 {n : Int} (h : 0 ≤ n ∧ n < 100) : (Lib.itoa n).length ≤ 2 := itoa_len h.1 2 (by have : ((10 ^ 2 : Nat) : Int) = 100 := (by decide); omega) (by omega)
theorem itoa6 {n : Int} (h : 0 ≤ n ∧ n < 1000000) : (Lib.itoa n).length ≤ 6 := itoa_len h.1 6 (by have : ((10 ^ 6 : Nat) : Int) = 1000000 := (by decide); omega) (by omega)
/-- A season's text is short. -/
theorem Seas.textLen {ps : List Pe} {ls : List La} (h : Seas ps ls) : (textF ps ls).length ≤ 400 := by
  have h6 := h.six
  have hf := h.few
  have hhead : (headL ps.length ls.length).length + 1 ≤ 11 := by
    unfold headL
    rw [line_length _ (by simp)]
    have h1 := itoa1 (n := (ps.length : Int)) (by omega)
    have h2 := itoa1 (n := (ls.length : Int)) (by omega)
    simp only [List.map_cons, List.map_nil, List.sum_cons, List.sum_nil]
    have : wSeason.length = 6 := rfl
    omega
  have hper : ∀ p ∈ ps, (perL p).length + 1 ≤ 25 := fun p hp => by
    have hb := h.pe p hp
    unfold perL
    rw [line_length _ (by simp)]
    have h1 := itoa2 (n := p.p) (by omega)
    have h2 := itoa6 (n := p.d) (by omega)
    have h3 := wordF_len p.f
    simp only [List.map_cons, List.map_nil, List.sum_cons, List.sum_nil]
    have : wPerson.length = 6 := rfl
    omega
  have hland : ∀ l ∈ ls, (landL l).length + 1 ≤ 34 := fun l hl => by
    have hb := h.la l hl
    have hw := h.w64 hl
    unfold landL
    rw [line_length _ (by simp [landW])]
    have h1 := itoa6 (n := l.g) (by omega)
    have h2 := itoa6 (n := l.c) (by omega)
    have hm : ((ints (membersL l.w)).map Lib.itoa).length ≤ 6 := by
      have hsub : (membersL l.w).Sublist (List.range 12) := List.filter_sublist
      have hlt := members_lt (n := 6) hw.1 (by have : (2 : Int) ^ 6 = 64 := (by decide); omega)
      have he : membersL l.w = memTo l.w 6 := by
        unfold membersL memTo
        rw [show (12 : Nat) = 6 + 6 by rfl, List.range_add, List.filter_append]
        have : ((List.range 6).map (6 + ·)).filter (fun j => hasB l.w j) = [] := by
          rw [List.filter_eq_nil_iff]
          intro j hj hh
          have hj12 : j < 12 ∧ 6 ≤ j := by simp only [List.mem_map, List.mem_range] at hj; omega
          have := hlt j (mem_membersL.2 ⟨hj12.1, hh⟩)
          omega
        rw [this, List.append_nil]
      rw [List.length_map, he]
      unfold ints memTo
      rw [List.length_map]
      exact Nat.le_trans (List.length_filter_le _ _) (by simp)
    have hs := sum_le (fun x : List UInt8 => x.length + 1) 2 ((ints (membersL l.w)).map Lib.itoa) (fun x hx => by
      obtain ⟨k, hk, rfl⟩ := List.mem_map.1 hx
      have hb2 := ints_who (by omega) hw.1 hk
      have := itoa1 (n := k) (by omega)
      omega)
    unfold landW
    rw [List.map_append, List.sum_append]
    simp only [List.map_cons, List.map_nil, List.sum_cons, List.sum_nil]
    have : wLanding.length = 7 := rfl
    omega
  have hend : (endLF ps ls).length + 1 ≤ 8 := by
    unfold endLF
    rw [line_length _ (by simp)]
    have h1 : (chkT (linesF ps ls)).length ≤ 3 := by
      unfold chkT
      rw [List.length_drop]
      have := itoa_len (n := 1000 + sumT (linesF ps ls) % 113) (by omega) 4 (by have : ((10 ^ 4 : Nat) : Int) = 10000 := (by decide); omega) (by omega)
      omega
    simp only [List.map_cons, List.map_nil, List.sum_cons, List.sum_nil]
    have : wEnd.length = 3 := rfl
    omega
  unfold textF
  rw [join_fed _ (by simp), fed_length]
  unfold linesF
  have e1 := sum_le (fun p => (perL p).length + 1) 25 ps hper
  have e2 := sum_le (fun p => (landL p).length + 1) 34 ls hland
  simp only [List.cons_append, List.map_cons, List.map_append, List.sum_cons, List.sum_append, List.map_map, List.map_nil, List.sum_nil, Function.comp_def]
  omega
theorem Seas.readText {ps : List Pe} {ls : List La} (h : Seas ps ls) : readF (textF ps ls) = ((ps, ls), 0) := by
  have hl := h.textLen
  unfold readF
  rw [if_neg (by omega), told_text h.peS h.laS]
  simp only [(seas_iff _ _).2 h, if_true]
end Go.Proofs
