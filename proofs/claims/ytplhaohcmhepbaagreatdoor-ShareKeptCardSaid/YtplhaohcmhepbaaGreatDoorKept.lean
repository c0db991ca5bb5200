/-
  The statement ShareKept holds for every input: the law returns true and what came in reads as before.
-/
import Derived.Test.YtplhaohcmhepbaaGreatDoorP14
import Derived.Test.YtplhaohcmhepbaaGreatDoorP12
import Derived.Test.YtplhaohcmhepbaaGreatDoorP13
import Derived.Test.YtplhaohcmhepbaaGreatDoorP17
import Derived.Test.YtplhaohcmhepbaaGreatDoorRows
import Derived.Test.YtplhaohcmhepbaaGreatDoorTie
import Derived.Test.YtplhaohcmhepbaaGreatDoorCards
import Derived.Test.YtplhaohcmhepbaaGreatDoorChecked
import Derived.ProofKit
import Derived.OpenShut
import Derived.LaidMore
import Derived.Stop.Joined
import Derived.SevenTiedAt
import Derived.Carry
import Derived.Lay
namespace Go.Proofs
open Go.RowKit Go.Shelf
attribute [local go_sem ↓] Go.wp_at_zero Go.wp_at_succ

theorem Seas.soldTake {ps : List Pe} {ls : List La} (h : Seas ps ls) (j : Nat) : -600000 ≤ sumI ((ls.take j).map fun l => l.g - l.c) ∧ sumI ((ls.take j).map fun l => l.g - l.c) ≤ 600000 := by
  have hb : ∀ x ∈ (ls.take j).map (fun l => l.g - l.c), -100000 ≤ x ∧ x ≤ 100000 := fun x hx => by
    obtain ⟨l, hl, rfl⟩ := List.mem_map.1 hx
    have hb := h.la l (List.mem_of_mem_take hl)
    omega
  have h1 := sumI_bd _ 100000 (fun x hx => by have := hb x hx; omega)
  have hl : ((ls.take j).map fun l => l.g - l.c).length ≤ 6 := by have := h.few; simp; omega
  omega
theorem Seas.totTake {ps : List Pe} {ls : List La} (h : Seas ps ls) (j : Nat) : 0 ≤ sumI ((totL ps ls).take j) ∧ sumI ((totL ps ls).take j) ≤ 1000000000000000 := by
  have hb : ∀ x ∈ (totL ps ls).take j, 0 ≤ x ∧ x ≤ 600000 * 191102976 := fun x hx => by
    obtain ⟨k, _, rfl⟩ := List.mem_map.1 (List.mem_of_mem_take hx)
    exact h.tot k
  have h1 := sumI_bd _ (600000 * 191102976) (fun x hx => by have := hb x hx; omega)
  have h2 := sumI_nonneg _ (fun x hx => (hb x hx).1)
  have hl : ((totL ps ls).take j).length ≤ 6 := by have := h.six; simp [totL]; omega
  omega
theorem Seas.paidTake {ps : List Pe} {ls : List La} (h : Seas ps ls) (j : Nat) : -60000000 ≤ sumI (((endsF ps ls).map En.p).take j) ∧ sumI (((endsF ps ls).map En.p).take j) ≤ 60000000 := by
  have hb : ∀ x ∈ ((endsF ps ls).map En.p).take j, -10000000 ≤ x ∧ x ≤ 10000000 := fun x hx => by
    obtain ⟨e, he, rfl⟩ := List.mem_map.1 (List.mem_of_mem_take hx)
    obtain ⟨k, hk, rfl⟩ := List.getElem_of_mem he
    have := h.few' (List.getElem?_eq_getElem hk)
    unfold FewE at this; omega
  have h1 := sumI_bd _ 10000000 (fun x hx => by have := hb x hx; omega)
  have hl : (((endsF ps ls).map En.p).take j).length ≤ 6 := by have := h.six; simp [endsFLen]; omega
  omega
theorem takeSum {α : Type} {xs : List α} {k : Nat} {x : α} (f : α → Int) (hx : xs[k]? = some x) : sumI ((xs.map f).take (k + 1)) = sumI ((xs.map f).take k) + f x := by
  have hk := (List.getElem?_eq_some_iff.1 hx).1
  rw [sumI_take _ _ (by simpa using hk)]
  congr 1
  rw [List.getElem_map]
  rw [List.getElem?_eq_getElem hk] at hx
  cases hx; rfl
set_option maxHeartbeats 4000000 in
set_option maxRecDepth 20000 in
theorem shareKept_walk (s : Sv) (w : World) (hi : s.In w) (hI : ItoaAll w) : Calls Tryz.prog 5 #[s.val] w fun e w' => e = .returned (.bool true) ∧ Below w.heap.size w w' := by
  have HSh := Lib.hid fun (W : World) => short_c s W
  have HK := Lib.hid fun (W : World) (hb : Below w.heap.size w W) => knownLaw_c W (hI.keep hb)
  cases h0 : shortB s
  · rw [h0] at HSh
    clear h0 hi hI
    obtain ⟨pA, lA, pn, pc, ln, lc, ps, ls⟩ := s
    simp only [Sv.val] at *
    have EE := Lib.hid (SBx.start w #[.slice pA pn pc, .slice lA ln lc])
    go_enter Tryz.func5, Tryz.ntmps5
    go_wp2_with (first
      | (refine wpList_load_row rfl 25 _ rfl w.heap.size rfl 25 _ (0, 0) _ EE.out.box Tryz.underlying25 rfl (by kernel_rfl) ?_)
      | (go_at_call 23; refine (HSh.out _).mono ?_; rintro e w1 ⟨rfl, hb⟩; replace EE := Lib.hid (EE.out.keep hb); clear hb)
      | (go_at_call 24; refine (HK.out _ EE.out.below).mono ?_; rintro e w2 ⟨rfl, hb⟩; replace EE := Lib.hid (EE.out.keep hb); clear hb))
    exact bodyPost_ret (results_tmp rfl _ _ _) rfl ⟨rfl, EE.out.below⟩
  · have hsm : s.pn ≤ 9 ∧ s.ln ≤ 9 := by simpa [shortB] using h0
    rw [h0] at HSh
    have HSe := Lib.hid fun (W : World) (hb : Below w.heap.size w W) => refSeason_c s (by omega) (by omega) W (hi.keep hb)
    cases h1 : seasonB s.ps s.ls
    · rw [h1] at HSe
      clear h0 h1 hi hI
      obtain ⟨pA, lA, pn, pc, ln, lc, ps, ls⟩ := s
      simp only [Sv.val] at *
      have EE := Lib.hid (SBx.start w #[.slice pA pn pc, .slice lA ln lc])
      have cb := EE.out.box.cell
      go_enter Tryz.func5, Tryz.ntmps5
      go_wp2_with (first
        | (go_at_call 23; refine (HSh.out _).mono ?_; rintro e w1 ⟨rfl, hb⟩; replace EE := Lib.hid (EE.out.keep hb); have cb := EE.out.box.cell; clear hb)
        | (go_at_call 27; refine (HSe.out _ EE.out.below).mono ?_; rintro e w2 ⟨rfl, hb⟩; replace EE := Lib.hid (EE.out.keep hb); clear hb)
        | (go_at_call 24; refine (HK.out _ EE.out.below).mono ?_; rintro e w2 ⟨rfl, hb⟩; replace EE := Lib.hid (EE.out.keep hb); clear hb))
      exact bodyPost_ret (results_tmp rfl _ _ _) rfl ⟨rfl, EE.out.below⟩
    · have hs := (seas_iff _ _).1 h1
      have hp6 : s.pn ≤ 6 := by rw [← hi.ps.1]; exact hs.six
      have hp2 : 2 ≤ s.pn := by rw [← hi.ps.1]; exact hs.two
      have hl6 : s.ln ≤ 6 := by rw [← hi.ls.1]; exact hs.few
      have HSt := Lib.hid fun (W : World) (hb : Below w.heap.size w W) => settle_ok s hs W (hi.keep hb)
      have HCl := Lib.hid fun (W : World) (hb : Below w.heap.size w W) => claims_ok s hs W (hi.keep hb)
      have HFw := Lib.hid fun (A : Option Addr) (c : Nat) (W : World) (h : SlOf En.cs 5 W A s.pn (endsF s.ps s.ls)) => few_c A s.pn c (endsF s.ps s.ls) (by omega) (fun k x hx => hs.few' hx) W h
      have HEn := Lib.hid (show (endsF s.ps s.ls).length = s.pn by rw [endsFLen, hi.ps.1])
      have HTn := Lib.hid (show (totL s.ps s.ls).length = s.pn by simp [totL, hi.ps.1])
      have HKa := Lib.hid fun (k : Nat) (hk : k < s.pn) => hs.keptAt (k := k) (by rw [hi.ps.1]; exact hk)
      have hbx := hs.boxB
      have hpl : s.ps.length = s.pn := hi.ps.1
      rw [hpl] at hbx
      have HKe := Lib.hid hs.kept
      have HPo := Lib.hid (show sumI (totL s.ps s.ls) = sumI (s.ls.map netI) * denF s.ps s.ls from hs.pool)
      have hden := hs.den
      have hnb := hs.netB
      have hpd := mul_bd2 hnb (show 0 ≤ denF s.ps s.ls ∧ denF s.ps s.ls ≤ 191102976 by omega)
      have HNt := Lib.hid fun j => hs.netTake j
      have HSo := Lib.hid fun j => hs.soldTake j
      have HTt := Lib.hid fun j => hs.totTake j
      have HPt := Lib.hid fun j => hs.paidTake j
      have HLa := Lib.hid fun y hy => hs.la y hy
      rw [h1] at HSe
      clear h0 h1 hI hs hpl
      obtain ⟨pA, lA, pn, pc, ln, lc, ps, ls⟩ := s
      obtain ⟨hp, hl⟩ := hi
      simp only [Sv.val] at *
      have HP := Lib.hid hp; have HPN := Lib.hid hp.1; have HL := Lib.hid hl; have HLN := Lib.hid hl.1
      clear hp hl
      generalize endsF ps ls = EL at *
      generalize totL ps ls = TL at *
      generalize denF ps ls = D at *
      generalize boxF ps ls = Bx at *
      obtain ⟨b0, b1⟩ := hbx
      obtain ⟨d0, d1⟩ := hden
      obtain ⟨n0, n1⟩ := hnb
      obtain ⟨z0, z1⟩ := hpd
      have x1 : ¬ Bx < 0 := by omega
      have x2 : ¬ (pn : Int) ≤ Bx := by omega
      have x3 : ¬ D < 1 := by omega
      have x4 : ¬ 1000000000 < D := by omega
      have EE := Lib.hid (SBx.start w #[.slice pA pn pc, .slice lA ln lc])
      have cb := EE.out.box.cell
      go_enter Tryz.func5, Tryz.ntmps5
      go_wp2_with (first
        | (refine wpList_load_row rfl 25 _ rfl w.heap.size rfl 25 _ (0, 0) _ EE.out.box Tryz.underlying25 rfl (by kernel_rfl) ?_)
        | (go_at_call 23; refine (HSh.out _).mono ?_; rintro e w1 ⟨rfl, hb⟩; replace EE := Lib.hid (EE.out.keep hb); have cb := EE.out.box.cell; clear hb)
        | (go_at_call 27; refine (HSe.out _ EE.out.below).mono ?_; rintro e w2 ⟨rfl, hb⟩; replace EE := Lib.hid (EE.out.keep hb); have cb := EE.out.box.cell; clear hb)
        | (go_at_call 31; refine (HSt.out _ EE.out.below).mono ?_; rintro e w3 ⟨v3, rfl, ho, hb⟩; replace EE := Lib.hid (EE.out.keep hb); have cb := EE.out.box.cell; obtain ⟨A3, c3, rfl, hs3, _⟩ := ho.sl; rw [HEn.out] at hs3 ⊢; have S3 := Lib.hid hs3; clear hb ho hs3)
        | (go_at_call 26; refine (HCl.out _ EE.out.below).mono ?_; rintro e w4 ⟨v4, rfl, ho, hb⟩; replace EE := Lib.hid (EE.out.keep hb); have cb := EE.out.box.cell; replace S3 := Lib.hid (S3.out.keep hb); obtain ⟨A6, c6, rfl, hs6, _⟩ := ho.sl; rw [HTn.out] at hs6 ⊢; have S6 := Lib.hid hs6; clear hb ho hs6)
        | (go_at_call 34; refine (HFw.out A3 c3 _ S3.out).mono ?_; rintro e w5 ⟨rfl, hb⟩; replace EE := Lib.hid (EE.out.keep hb); have cb := EE.out.box.cell; replace S3 := Lib.hid (S3.out.keep hb); replace S6 := Lib.hid (S6.out.keep hb); clear hb))
      clear cb
      have HP5 := Lib.hid (HP.out.keep EE.out.below); have HL5 := Lib.hid (HL.out.keep EE.out.below)
      go_loopw [9, 10, 13] (fun a b i wr => ∃ k : Nat, k ≤ ln ∧ i = .int .i64 k ∧ a = .int .i64 (sumI ((ls.take k).map fun l => l.g - l.c)) ∧ b = .int .i64 (sumI ((ls.take k).map netI)) ∧ Below w5.heap.size w5 wr) (fun _ _ i _ => ln - (intOf i).toNat)
      case atStart => exact ⟨0, by omega, rfl, by simp [sumI], by simp [sumI], Below.refl _ _⟩
      case round =>
        obtain ⟨k, hk, rfl, rfl, rfl, hB⟩ := hrel
        have HB := Lib.hid hB
        have cf := (EE.out.keep hB).box.cell
        clear hB
        by_cases hkn : k < ln
        · have hkl : k < ls.length := by rw [HLN.out]; exact hkn
          have hy := List.getElem?_eq_getElem hkl
          obtain ⟨y, hyy⟩ : ∃ y, y = ls[k] := ⟨_, rfl⟩
          rw [← hyy] at hy
          have hla := HLa.out y (List.mem_of_getElem? hy)
          have HT1 := Lib.hid (net_take (fun l : La => l.g - l.c) hy)
          have HT2 := Lib.hid (net_take netI hy)
          have s1 := HSo.out k; have s2 := HNt.out k
          obtain ⟨lb, lo, he⟩ := HL.out.addr (by omega)
          subst he
          have M := Lib.hid fun (W : World) (hb : Below wr.heap.size wr W) => (show (∀ i, W.cell? ⟨w.heap.size, i, none⟩ = (#[.slice pA pn pc, .slice (some ⟨lb, lo, none⟩) ln lc] : Array Value)[i]?) ∧ W.cell? ⟨lb, lo + k * 3, none⟩ = some (.int .i64 y.g) ∧ W.cell? ⟨lb, lo + k * 3 + 1, none⟩ = some (.int .i64 y.c) from by
            have hr := ((HL5.out.keep HB.out).keep hb).range La.cs_len hy
            have h0 := hr 0 _ rfl; have h1 := hr 1 _ rfl
            exact ⟨((EE.out.keep HB.out).keep hb).box.cell, by simpa using h0, h1⟩)
          obtain ⟨g, c, m⟩ := y
          simp only at hla M HT1
          have HNy := Lib.hid (show netI ⟨g, c, m⟩ = max (g - c) 0 from rfl)
          clear hy hyy
          generalize netI ⟨g, c, m⟩ = ny at *
          generalize sumI ((ls.take k).map fun l => l.g - l.c) = S1 at *
          generalize sumI ((ls.take k).map netI) = S2 at *
          obtain ⟨s10, s11⟩ := s1; obtain ⟨s20, s21⟩ := s2
          obtain ⟨g0, g1, c0, c1, _⟩ := hla
          go_wp2
          apply wp_loose 16 [.v _, .v _, .v _, .v _, .v _, .v _, .v _, .v _, .v _, .v _, .v _, .v _, .v _, .v _, .v _, .v _] (by kernel_rfl) (by kernel_rfl) (by kernel_rfl) (by decide) rfl
          intro K hK
          iterate 7 (apply OblS.val (by kernel_rfl); (intro w' hb _; obtain ⟨q1, q2, q3⟩ := M.out w' hb; go_simp; rfl))
          apply OblS.val (v := .int .i64 (S1 + g)) (by kernel_rfl)
          · intro w' hb _; go_simp; rw [IntKind.wrap_i64]; omega
          iterate 6 (apply OblS.val (by kernel_rfl); (intro w' hb _; obtain ⟨q1, q2, q3⟩ := M.out w' hb; go_simp; rfl))
          apply OblS.val (v := .int .i64 (S1 + g - c)) (by kernel_rfl)
          · intro w' hb _; go_simp; rw [IntKind.wrap_i64]; omega
          apply OblS.val (by kernel_rfl)
          · intro w' hb _; go_simp; rfl
          apply OblS.nil
          apply hK
          intro w6 hb hH
          clear hH hK K
          simp only [Act.put, List.setIfInBounds_toArray, List.set_cons_zero, List.set_cons_succ, List.drop_succ_cons, List.drop_zero]
          have HB6 := Lib.hid hb
          clear hb cf
          go_wp2
          apply wp_loose 17 [.v _, .v _, .v _, .v _, .v _, .v _, .v _, .v _, .v _, .v _, .v _, .v _, .v _, .v _, .v _, .v _, .v _] (by kernel_rfl) (by kernel_rfl) (by kernel_rfl) (by decide) rfl
          intro K hK
          iterate 13 (apply OblS.val (by kernel_rfl); (intro w' hb _; obtain ⟨q1, q2, q3⟩ := M.out w' (nextB HB6.out hb); go_simp; rfl))
          apply OblS.val (v := .int .i64 (g - c)) (by kernel_rfl)
          · intro w' hb _; go_simp; rw [IntKind.wrap_i64]; omega
          apply OblS.val (v := .int .i64 ny) (by kernel_rfl)
          · intro w' hb _; have := HNy.out; go_simp; first | omega | (split <;> omega)
          apply OblS.val (v := .int .i64 (S2 + ny)) (by kernel_rfl)
          · intro w' hb _; have := HNy.out; go_simp; rw [IntKind.wrap_i64]; omega
          apply OblS.val (by kernel_rfl)
          · intro w' hb _; go_simp; rfl
          apply OblS.nil
          apply hK
          intro w7 hb hH
          clear hH hK K
          simp only [Act.put, List.setIfInBounds_toArray, List.set_cons_zero, List.set_cons_succ, List.drop_succ_cons, List.drop_zero]
          have HB7 := Lib.hid (nextB HB.out (nextB HB6.out hb))
          clear hb
          go_wp2
          go_roundw
          case rel => exact ⟨k + 1, by omega, by go_num, by rw [HT1.out, Int.add_sub_assoc], by rw [HT2.out], HB7.out⟩
          case measure => first | (simp [intOf]; done) | (simp [intOf]; omega)
        · have hke : k = ln := by omega
          subst hke
          have HLe := Lib.hid (show ls.take k = ls from List.take_of_length_le (by rw [HLN.out]; exact Nat.le_refl _))
          rw [HLe.out]
          have EB := Lib.hid (EE.out.keep HB.out)
          have T3 := Lib.hid (S3.out.keep HB.out); have T6 := Lib.hid (S6.out.keep HB.out)
          have HPB := Lib.hid (HP5.out.keep HB.out)
          have hso := HSo.out ls.length
          rw [List.take_of_length_le (Nat.le_refl _)] at hso
          generalize sumI (ls.map fun l => l.g - l.c) = SO at *
          generalize sumI (ls.map netI) = N at *
          clear EE S3 S6 HP5 HL5 HSo HNt HLa HLe HB
          generalize wr = wb at *
          go_wp2
          go_loopw [11, 12, 14] (fun a b i wr => ∃ j : Nat, j ≤ pn ∧ i = .int .i64 j ∧ a = .int .i64 (Bx + sumI ((EL.map En.p).take j)) ∧ b = .int .i64 (sumI (TL.take j)) ∧ Below wb.heap.size wb wr) (fun _ _ i _ => pn - (intOf i).toNat)
          case atStart => exact ⟨0, by omega, rfl, by simp [sumI], by simp [sumI], Below.refl _ _⟩
          case round =>
            obtain ⟨j, hj, rfl, rfl, rfl, hB⟩ := hrel
            have HB := Lib.hid hB
            clear hB
            by_cases hjn : j < pn
            · obtain ⟨x, e, cc, hx, he, hc, r1, r2, r3, r4, r5, r6, r7, r8⟩ := HKa.out j hjn
              have HT1 := Lib.hid (takeSum En.p he)
              have HT2 := Lib.hid (show sumI (TL.take (j + 1)) = sumI (TL.take j) + cc by
                have hjl := (List.getElem?_eq_some_iff.1 hc).1
                rw [sumI_take _ _ hjl]
                rw [List.getElem?_eq_getElem hjl] at hc
                cases hc; rfl)
              have s1 := HPt.out j; have s2 := HTt.out j
              obtain ⟨pb, po, hpa⟩ := HPB.out.addr (by omega)
              obtain ⟨b3, o3, ha3⟩ := T3.out.addr (by omega)
              obtain ⟨b6, o6, ha6⟩ := T6.out.addr (by omega)
              subst hpa ha3 ha6
              have M := Lib.hid fun (W : World) (hb : Below wr.heap.size wr W) => (show (∀ i, W.cell? ⟨w.heap.size, i, none⟩ = (#[.slice (some ⟨pb, po, none⟩) pn pc, .slice lA k lc] : Array Value)[i]?) ∧ W.cell? ⟨pb, po + j * 3 + 1, none⟩ = some (.int .i64 x.d) ∧ W.cell? ⟨b6, o6 + j, none⟩ = some (.int .i64 cc)
                ∧ W.cell? ⟨b3, o3 + j * 5, none⟩ = some (.int .i64 e.s) ∧ W.cell? ⟨b3, o3 + j * 5 + 1, none⟩ = some (.int .i64 e.o) ∧ W.cell? ⟨b3, o3 + j * 5 + 2, none⟩ = some (.int .i64 e.p) ∧ W.cell? ⟨b3, o3 + j * 5 + 3, none⟩ = some (.int .i64 e.w) ∧ W.cell? ⟨b3, o3 + j * 5 + 4, none⟩ = some (.int .i64 e.k) from by
                have hr := ((HPB.out.keep HB.out).keep hb).range Pe.cs_len hx
                have hr6 := ((T6.out.keep HB.out).keep hb).range inC_len hc 0 _ rfl
                exact ⟨((EB.out.keep HB.out).keep hb).box.cell, hr 1 _ rfl, by simpa using hr6, cells46 (((T3.out.keep HB.out).keep hb).range En.cs_len he)⟩)
              have htd : cc.tdiv D = cc / D := Int.tdiv_eq_ediv_of_nonneg r2
              obtain ⟨es, eo, ep, ew, ek⟩ := e
              obtain ⟨xp, xd, xf⟩ := x
              unfold FewE at r6
              simp only at M HT1 r1 r4 r5 r6 r7 r8
              have D0 : ¬ D = 0 := by omega
              have f1 : ¬ cc < 0 := by omega
              have f2 : ¬ 1000000 * D < cc := by omega
              clear he hx hc
              generalize sumI ((EL.map En.p).take j) = S1 at *
              generalize sumI (TL.take j) = S2 at *
              obtain ⟨s10, s11⟩ := s1; obtain ⟨s20, s21⟩ := s2
              have HR5 := Lib.hid r5
              have HR1 := Lib.hid r1; have HR4 := Lib.hid r4; have HR6 := Lib.hid r6
              have HG1 := Lib.hid f1; have HG2 := Lib.hid f2
              clear r1 r4 r5 r6 f1 f2
              go_wp2
              apply wp_loose 54 (.v _ :: .v _ :: .v _ :: .v _ :: .v _ :: .v _ :: .v _ :: .v _ :: .v _ :: .v _ :: .v _ :: .v _ :: .v _ :: .v _ :: .v _ :: .v _ :: .v _ :: .v _ :: .v _ :: .v _ :: .v _ :: .v _ :: .v _ :: .v _ :: .v _ :: .v _ :: .v _ :: .v _ :: .v _ :: .v _ :: .v _ :: .v _ :: .v _ :: .v _ :: .v _ :: .v _ :: .v _ :: .v _ :: .v _ :: .v _ :: .v _ :: .v _ :: .v _ :: .v _ :: .v _ :: .v _ :: .v _ :: .v _ :: .v _ :: .v _ :: .v _ :: .v _ :: .v _ :: .v _ :: []) (by kernel_rfl) (by kernel_rfl) (by kernel_rfl) (by decide) rfl
              intro K hK
              iterate 4 (apply OblS.val (by kernel_rfl); (intro w' hb _; obtain ⟨q1, q2, q3, q4, q5, q6, q7, q8⟩ := M.out w' hb; have f1 := HG1.out; have f2 := HG2.out; go_simp; rfl))
              apply OblS.val (v := .bool false) (by kernel_rfl)
              · intro w' hb _; obtain ⟨q1, q2, q3, q4, q5, q6, q7, q8⟩ := M.out w' hb; have f1 := HG1.out; have f2 := HG2.out; go_simp
              apply OblS.val (v := .bool false) (by kernel_rfl)
              · intro w' hb _; obtain ⟨q1, q2, q3, q4, q5, q6, q7, q8⟩ := M.out w' hb; have f1 := HG1.out; have f2 := HG2.out; go_simp
              iterate 5 (apply OblS.val (by kernel_rfl); (intro w' hb _; obtain ⟨q1, q2, q3, q4, q5, q6, q7, q8⟩ := M.out w' hb; have f1 := HG1.out; have f2 := HG2.out; go_simp; rfl))
              apply OblS.val (v := .int .i64 (1000000 * D)) (by kernel_rfl)
              · intro w' hb _; go_simp; rw [IntKind.wrap_i64]; omega
              apply OblS.val (v := .bool false) (by kernel_rfl)
              · intro w' hb _; obtain ⟨q1, q2, q3, q4, q5, q6, q7, q8⟩ := M.out w' hb; have f1 := HG1.out; have f2 := HG2.out; go_simp
              apply OblS.val (v := .bool false) (by kernel_rfl)
              · intro w' hb _; obtain ⟨q1, q2, q3, q4, q5, q6, q7, q8⟩ := M.out w' hb; have f1 := HG1.out; have f2 := HG2.out; go_simp
              apply OblS.val (v := .bool false) (by kernel_rfl)
              · intro w' hb _; obtain ⟨q1, q2, q3, q4, q5, q6, q7, q8⟩ := M.out w' hb; have f1 := HG1.out; have f2 := HG2.out; go_simp
              iterate 10 (apply OblS.val (by kernel_rfl); (intro w' hb _; obtain ⟨q1, q2, q3, q4, q5, q6, q7, q8⟩ := M.out w' hb; have f1 := HG1.out; have f2 := HG2.out; go_simp; rfl))
              apply OblS.val (v := .int .i64 es) (by kernel_rfl)
              · intro w' hb _; have := HR1.out; have := HR6.out; go_simp; rw [IntKind.wrap_i64]; omega
              apply OblS.val (v := .bool false) (by kernel_rfl)
              · intro w' hb _; obtain ⟨q1, q2, q3, q4, q5, q6, q7, q8⟩ := M.out w' hb; have f1 := HG1.out; have f2 := HG2.out; go_simp
              apply OblS.val (v := .bool false) (by kernel_rfl)
              · intro w' hb _; obtain ⟨q1, q2, q3, q4, q5, q6, q7, q8⟩ := M.out w' hb; have f1 := HG1.out; have f2 := HG2.out; go_simp
              apply OblS.val (v := .bool false) (by kernel_rfl)
              · intro w' hb _; obtain ⟨q1, q2, q3, q4, q5, q6, q7, q8⟩ := M.out w' hb; have f1 := HG1.out; have f2 := HG2.out; go_simp
              iterate 10 (apply OblS.val (by kernel_rfl); (intro w' hb _; obtain ⟨q1, q2, q3, q4, q5, q6, q7, q8⟩ := M.out w' hb; have f1 := HG1.out; have f2 := HG2.out; go_simp; rfl))
              apply OblS.val (v := .int .i64 (eo + ew)) (by kernel_rfl)
              · intro w' hb _; have := HR6.out; go_simp; rw [IntKind.wrap_i64]; omega
              iterate 5 (apply OblS.val (by kernel_rfl); (intro w' hb _; obtain ⟨q1, q2, q3, q4, q5, q6, q7, q8⟩ := M.out w' hb; have f1 := HG1.out; have f2 := HG2.out; go_simp; rfl))
              apply OblS.val (v := .int .i64 xd) (by kernel_rfl)
              · intro w' hb _; have := HR4.out; have := HR6.out; go_simp; rw [IntKind.wrap_i64]; omega
              iterate 6 (apply OblS.val (by kernel_rfl); (intro w' hb _; obtain ⟨q1, q2, q3, q4, q5, q6, q7, q8⟩ := M.out w' hb; have f1 := HG1.out; have f2 := HG2.out; go_simp; rfl))
              apply OblS.val (v := .bool false) (by kernel_rfl)
              · intro w' hb _; obtain ⟨q1, q2, q3, q4, q5, q6, q7, q8⟩ := M.out w' hb; have f1 := HG1.out; have f2 := HG2.out; go_simp
              apply OblS.val (v := .bool false) (by kernel_rfl)
              · intro w' hb _; obtain ⟨q1, q2, q3, q4, q5, q6, q7, q8⟩ := M.out w' hb; have f1 := HG1.out; have f2 := HG2.out; go_simp
              apply OblS.nil
              apply hK
              intro w6 hb hH
              clear hH hK K
              simp only [Act.put, List.setIfInBounds_toArray, List.set_cons_zero, List.set_cons_succ, List.drop_succ_cons, List.drop_zero]
              have HB6 := Lib.hid hb
              clear hb
              go_wp2
              apply wp_loose 15 [.v _, .v _, .v _, .v _, .v _, .v _, .v _, .v _, .v _, .v _, .v _, .v _, .v _, .v _, .v _] (by kernel_rfl) (by kernel_rfl) (by kernel_rfl) (by decide) rfl
              intro K hK
              iterate 6 (apply OblS.val (by kernel_rfl); (intro w' hb _; obtain ⟨q1, q2, q3, q4, q5, q6, q7, q8⟩ := M.out w' (nextB HB6.out hb); go_simp; rfl))
              apply OblS.val (v := .int .i64 (Bx + S1 + ep)) (by kernel_rfl)
              · intro w' hb _; have := HR6.out; go_simp; rw [IntKind.wrap_i64]; omega
              iterate 5 (apply OblS.val (by kernel_rfl); (intro w' hb _; obtain ⟨q1, q2, q3, q4, q5, q6, q7, q8⟩ := M.out w' (nextB HB6.out hb); go_simp; rfl))
              apply OblS.val (v := .int .i64 (S2 + cc)) (by kernel_rfl)
              · intro w' hb _; go_simp; rw [IntKind.wrap_i64]; omega
              iterate 2 (apply OblS.val (by kernel_rfl); (intro w' hb _; go_simp; rfl))
              apply OblS.nil
              apply hK
              intro w7 hb hH
              clear hH hK K
              simp only [Act.put, List.setIfInBounds_toArray, List.set_cons_zero, List.set_cons_succ, List.drop_succ_cons, List.drop_zero]
              have HB7 := Lib.hid (nextB HB6.out hb)
              clear hb
              go_wp2
              by_cases hj0 : 0 < j
              · have g1 : (0 : Int) < (j : Int) := by omega
                have r5 := HR5.out hj0
                have HR5' := Lib.hid r5
                clear r5
                apply wp_loose 21 [.v _, .v _, .v _, .v _, .v _, .v _, .v _, .v _, .v _, .v _, .v _, .v _, .v _, .v _, .v _, .v _, .v _, .v _, .v _, .v _, .v _] (by kernel_rfl) (by kernel_rfl) (by kernel_rfl) (by decide) rfl
                intro K hK
                apply OblS.val (by kernel_rfl)
                · intro w' hb _; go_simp; rfl
                iterate 2 (apply OblS.val (v := .bool true) (by kernel_rfl); (intro w' hb _; go_simp))
                iterate 10 (apply OblS.val (by kernel_rfl); (intro w' hb _; obtain ⟨q1, q2, q3, q4, q5, q6, q7, q8⟩ := M.out w' (nextB HB7.out hb); go_simp; rfl))
                apply OblS.val (v := .int .i64 es) (by kernel_rfl)
                · intro w' hb _; have := HR5'.out; have := HR6.out; go_simp; rw [IntKind.wrap_i64]; omega
                iterate 7 (apply OblS.val (by kernel_rfl); (intro w' hb _; obtain ⟨q1, q2, q3, q4, q5, q6, q7, q8⟩ := M.out w' (nextB HB7.out hb); go_simp; rfl))
                apply OblS.nil
                apply hK
                intro w8 hb hH
                clear hH hK K
                simp only [Act.put, List.setIfInBounds_toArray, List.set_cons_zero, List.set_cons_succ, List.drop_succ_cons, List.drop_zero]
                have HB8 := Lib.hid (nextB HB.out (nextB HB7.out hb))
                clear hb
                go_wp2
                go_roundw
                case rel => exact ⟨j + 1, by omega, by go_num, by rw [HT1.out, Int.add_assoc], by rw [HT2.out], HB8.out⟩
                case measure => first | (simp [intOf]; done) | (simp [intOf]; omega)
              · have g1 : ¬ (0 : Int) < (j : Int) := by omega
                apply wp_loose 21 [.v _, .v _, .v _, .v _, .v _, .v _, .v _, .v _, .v _, .v _, .v _, .v _, .v _, .v _, .v _, .v _, .v _, .v _, .v _, .v _, .v _] (by kernel_rfl) (by kernel_rfl) (by kernel_rfl) (by decide) rfl
                intro K hK
                apply OblS.val (by kernel_rfl)
                · intro w' hb _; go_simp; rfl
                iterate 2 (apply OblS.val (v := .bool false) (by kernel_rfl); (intro w' hb _; go_simp))
                iterate 17 (apply OblS.skip (by kernel_rfl))
                apply OblS.val (by kernel_rfl)
                · intro w' hb _; go_simp; rfl
                apply OblS.nil
                apply hK
                intro w8 hb hH
                clear hH hK K
                simp only [Act.put, List.setIfInBounds_toArray, List.set_cons_zero, List.set_cons_succ, List.drop_succ_cons, List.drop_zero]
                have HB8 := Lib.hid (nextB HB.out (nextB HB7.out hb))
                clear hb
                go_wp2
                go_roundw
                case rel => exact ⟨j + 1, by omega, by go_num, by rw [HT1.out, Int.add_assoc], by rw [HT2.out], HB8.out⟩
                case measure => first | (simp [intOf]; done) | (simp [intOf]; omega)
            · have hje : j = pn := by omega
              subst hje
              have HE1 := Lib.hid (show (EL.map En.p).take j = EL.map En.p from List.take_of_length_le (by rw [List.length_map, HEn.out]; exact Nat.le_refl _))
              have HE2 := Lib.hid (show TL.take j = TL from List.take_of_length_le (by rw [HTn.out]; exact Nat.le_refl _))
              have EC := Lib.hid (EB.out.keep HB.out)
              have hk1 := HKe.out
              have hk2 := HPo.out
              rw [HE1.out, HE2.out, hk2]
              have e1 : Bx + sumI (EL.map En.p) = SO := by omega
              rw [e1]
              clear e1 hk1 hk2
              obtain ⟨PD, hPD⟩ : ∃ t, t = N * D := ⟨_, rfl⟩
              have e2 : wrap64 (N * D) = PD := by rw [← hPD] at z0 z1 ⊢; exact w64 (by omega) (by omega)
              have e3 : IntKind.i64.wrap (N * D) = PD := by rw [← hPD] at z0 z1 ⊢; rw [IntKind.wrap_i64]; omega
              rw [← hPD]
              clear hPD z0 z1
              go_wp2_with (go_at_call 24; refine (HK.out _ EC.out.below).mono ?_; rintro e w8 ⟨rfl, hb⟩; replace EC := Lib.hid (EC.out.keep hb); clear hb)
              exact bodyPost_ret (results_tmp rfl _ _ _) rfl ⟨rfl, EC.out.below⟩
end Go.Proofs
namespace Go.Proofs.YtplhaohcmhepbaaGreatDoor.shareKept
open Go.ChangeShapes Go.WideShapes Go.ChangeAt Go.RowKit Go.Proofs

theorem own : ownKnob Tryz.prog.godebug = none := f_own
theorem laidOut : laidOutB Tryz.prog = true := f_laid
set_option maxRecDepth 100000 in
theorem lifted (os : Os) (started : os.Started) (H : Type) (enc : TypeId × Value → H) :
    ReturnsInHanded {} Tryz.checked os 5 .any (fun w args => (Rows.shareKeptSpec.pre enc Tryz.prog Tryz.f5 [] false w args ∧ laidMetH Tryz.prog Rows.shareKeptRow.laid w) ∧ sizedMet enc Tryz.prog Tryz.f5 (OpenSpec.ofChange Rows.shareKeptSpec) false w args)
      (Rows.shareKeptSpec.post enc Tryz.prog Tryz.f5 false true false false) := by
  refine returnsInHanded_of_change_and (C := Tryz.checked) (X := fun w _ => laidMetH Tryz.prog Rows.shareKeptRow.laid w) (fun _ _ _ hh h => h.of_heap hh) own started (by kernel_rfl) Tryz.func5
    (ChangeSpec.witness_shaped (enc := enc) (C := Tryz.checked) (os := os) (X := fun w _ => laidMetH Tryz.prog Rows.shareKeptRow.laid w) false (World.laidAll Tryz.prog os Rows.shareKeptRow.laid) #[.agg #[.slice none 0 0, .slice none 0 0]] 8 (World.laidAll_os _ _ _) (World.shaped_of_ZipB (by kernel_rfl) (by kernel_rfl)) (by kernel_rfl) (by kernel_rfl) (by kernel_rfl) (by rw [MakeChecks.laidMetH_plain _ _ _ (by kernel_rfl)]; exact laidMet_laidAll _ (by kernel_rfl) (by kernel_rfl))) ?_
  intro W base args ds gs before hval0 hW _ _ hL _
  have hval : ∀ (j : Nat) t v, Tryz.f5.params[j]? = some t → args[j]? = some v → Value.okWide Tryz.prog W .any base t v := hval0
  have hW' := hW
  obtain ⟨p, q, hA0, hV, rfl, hfz, hnd⟩ := hW
  have hA : DataW.TrodAll enc Tryz.prog W 0 (fun _ => true) true Tryz.f5.params.toList args.toList ds p := hA0
  rw [Tryz.params5] at hA hval
  obtain ⟨v0, vs0, d0, ds0, p0, q0, hargs, rfl, rfl, h0, r0⟩ := trodAll_cons hA
  obtain ⟨rfl, rfl, rfl⟩ := trodAll_nil r0
  obtain rfl : args = #[v0] := by cases args; simp_all
  obtain ⟨rfl, rfl⟩ := trodVars_none hV
  have k0 := h0
  have lt0 : ∀ x ∈ p0, x.block < W.heap.size := by obtain ⟨m, hm⟩ := k0; exact DataW.trod_lt m _ _ _ hm
  have u0 := hval 0 25 v0 rfl rfl
  obtain ⟨s0, rfl, hd0, wp0, wl0, hx0⟩ := arg_season u0 h0
  have htab := tab_of_laid (show laidMet Tryz.prog Rows.shareKeptRow.laid W from hL)
  clear hA0 hval0
  simp only [List.append_nil] at hW'
  refine (shareKept_walk s0 W hd0 (itoa_tab htab)).mono fun e W' ⟨he, bel⟩ => ?_
  subst he
  exact ⟨_, rfl, _, _, _, [], _, [], hW', trodAll_mk1 (shut_bool Tryz.underlying4 _), (trodAll_cons_mk (Below.trod laidOut (by kernel_rfl) (of_decide_eq_true (by kernel_rfl)) k0 bel lt0) trodAll_mk0), rfl, bel.frame _, fun h => by cases h⟩

theorem both_true {a b : Bool} (h : a = true) (g : b = true) : (a && b) = true := by rw [h, g]; rfl
set_option maxHeartbeats 16000000 in
theorem closed : joinedFacts Tryz.prog 5 Tryz.f5 Rows.shareKeptSpec Rows.shareKeptRow = true := by
  unfold joinedFacts
  repeat' (with_reducible refine both_true ?_ ?_)
  all_goals first | (with_reducible exact f_laid) | (with_reducible exact f_rowed) | (with_reducible exact f_heard) | (with_reducible exact f_enter) | (with_reducible rw [f_keys]; as_aux_lemma => kernel_rfl) | (with_reducible rw [f_lift]; as_aux_lemma => kernel_rfl) | (with_reducible rw [f_make]; as_aux_lemma => kernel_rfl) | (as_aux_lemma => kernel_rfl)

theorem row_holds : Rows.ShareKeptSaid :=
  OpenClaim.holds_of_wide 5 Tryz.f5 rfl rfl rfl rfl rfl rfl rfl ⟨rfl, rfl, rfl, rfl, rfl⟩ rfl rfl rfl rfl rfl (by as_aux_lemma => kernel_rfl) Tryz.func5 closed
    (of_decide_eq_true (by kernel_rfl)) (by unfold Func.isWrapper; first | (rw [if_pos (by decide +kernel)]; kernel_rfl) | (rw [if_neg (by decide +kernel)]; exact ⟨rfl, rfl⟩))
    (fun os started H enc _ => lifted os started H enc)

set_option maxHeartbeats 8000000 in
theorem shareKept_holds : Rows.ShareKeptCardSaid :=
  Claim7.holds_tied_plain_at .later [] [.data, .data, .data, .data, .pinned] true (true, "7e62b5f23aa16cc2579dbf745918b39c2216085a6a4405f0c28cfd6d2389e0e4") true
    row_holds (fun _ h => by cases h) (by as_aux_lemma => kernel_rfl) (fun _ h => by cases h) shareKept_row_tie rfl ⟨rfl, rfl⟩ (by as_aux_lemma => kernel_rfl) rfl
    (fun f fn hf hfn => by
      obtain rfl : f = 5 := Option.some.inj ((show Tryz.prog.funcNamed "bathyal/bathyallaw05.ShareKept" = some 5 by kernel_rfl).symm.trans hf) |>.symm
      obtain rfl : fn = Tryz.f5 := (Option.some.inj (Tryz.func5.symm.trans hfn)).symm
      exact ⟨by kernel_rfl, fun j t ht => by
        rw [Tryz.params5] at ht
        have hm : t ∈ [25] := by simpa using Array.mem_of_getElem? ht
        have hall : ([25].all fun u => !Tryz.prog.wantsStandIn u) = true := by kernel_rfl
        exact (show Tryz.prog.wantsStandIn t = false by simpa using List.all_eq_true.1 hall t hm)⟩)
    (by as_aux_lemma => kernel_rfl)
#print axioms shareKept_holds
end Go.Proofs.YtplhaohcmhepbaaGreatDoor.shareKept
