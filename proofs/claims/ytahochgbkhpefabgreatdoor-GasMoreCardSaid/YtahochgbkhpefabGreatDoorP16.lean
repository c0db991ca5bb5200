/-
  Contracts of the law's above hold where table and spans are as defined, and what is known of a dive can be read row by row.
-/
import Derived.Test.YtahochgbkhpefabGreatDoorP9
import Derived.Test.YtahochgbkhpefabGreatDoorP14
import Derived.Test.YtahochgbkhpefabGreatDoorP15
namespace Go.Proofs
open Go.RowKit Go.Shelf Gas
theorem Lists.form2 {w : World} {base : Nat} {v : Value} {m : Nat} {xss : List (List Pr)} (h : Lists w base v m xss) : ∃ A c, v = .slice A xss.length c := by
  obtain ⟨cells, h1, _⟩ := h.ex
  rcases h1.2 with ⟨rfl, h0⟩ | ⟨g, cap, cur, rfl, _⟩
  · exact ⟨none, 0, by rw [h0]⟩
  · exact ⟨_, _, rfl⟩
theorem Lists.at2 {w : World} {base : Nat} {A : Option Addr} {n c : Nat} {m : Nat} {xss : List (List Pr)} (h : Lists w base (.slice A n c) m xss) {k : Nat} {xs : List Pr} (hx : xss[k]? = some xs) (hn : xss.length = n) : ∃ g D, A = some ⟨g, 0, none⟩ ∧ w.cell? ⟨g, k, none⟩ = some (.slice (some ⟨D, 0, none⟩) m m) ∧ SlOf prC 2 w (some ⟨D, 0, none⟩) m xs := by
  obtain ⟨cells, h1, h2⟩ := h.ex
  have hk := (List.getElem?_eq_some_iff.1 hx).1
  obtain ⟨D, e1, e2⟩ := h2 k xs hx
  rcases h1.2 with ⟨_, h0⟩ | ⟨g, cap, cur, e, _⟩
  · omega
  · cases e
    exact ⟨g, D, rfl, (h1.cellAt k (by omega)).trans e1, e2.sl prC_len⟩
end Go.Proofs
namespace Go.Proofs
open Go.RowKit Go.Shelf Gas
attribute [local go_sem ↓] Go.wp_at_zero Go.wp_at_succ

theorem firstP_at {f : Nat → Bool} {k : Nat} : ∀ n : Nat, k < n → (∀ j, j < k → f j = false) → f k = true → firstP f n = k
  | 0, h, _, _ => by omega
  | n + 1, h, h1, h2 => by
    simp only [firstP]
    rcases Nat.lt_succ_iff_lt_or_eq.1 h with h' | rfl
    · rw [firstP_at n h' h1 h2, if_pos (by omega)]
    · have := (firstP_none (f := f) k).2 h1
      rw [if_neg (by omega), if_pos h2]
theorem firstP_ge (f : Nat → Bool) : ∀ n : Nat, firstP f n = -1 ∨ 0 ≤ firstP f n
  | 0 => .inl rfl
  | n + 1 => by
    simp only [firstP]
    split
    · rename_i h; exact .inr h
    · split
      · exact .inr (by omega)
      · exact .inl rfl
/-- The first compartment that can hold more than is allowed at a depth; -1, if none can. -/
def abvF (ps sp : List Pr) (d : Int) (n : Nat) : Int := firstP (fun k => decide ((sp.getD k (0, 0)).2 > (ps.getD k (0, 0)).1 + (ps.getD k (0, 0)).2 * d)) n
theorem abvF_ge (ps sp : List Pr) (d : Int) (n : Nat) : abvF ps sp d n = -1 ∨ 0 ≤ abvF ps sp d n := firstP_ge _ n
theorem abvF_enter {ps rs : List Pr} (h : Nat → Int → Pr) (d : Int) {n : Nat} (hn : ps.length = n) : abvF ps (spansOf rs h n) d n = -1 ↔ enterB ps rs h d true = true := by
  have e : ∀ k, k < n → decide (((spansOf rs h n).getD k (0, 0)).2 > (ps.getD k (0, 0)).1 + (ps.getD k (0, 0)).2 * d) = exceedsB ps rs h k d := fun k hk => by
    simp [exceedsB, spansOf, List.getD_eq_getElem?_getD, hk]
  have h1 := firstP_none (f := fun k => decide (((spansOf rs h n).getD k (0, 0)).2 > (ps.getD k (0, 0)).1 + (ps.getD k (0, 0)).2 * d)) n
  have h2 := abvF_ge ps (spansOf rs h n) d n
  rw [enterB_iff]
  unfold abvF at *
  constructor
  · intro hv
    refine ⟨rfl, fun p hp => ?_⟩
    rw [← e p (by omega)]
    exact h1.1 (by omega) p (by omega)
  · rintro ⟨_, hv⟩
    have := h1.2 fun p hp => (e p hp).trans (hv p (by omega))
    omega

set_option maxHeartbeats 1000000 in
theorem above_c (t : Tm) (hpn : t.pn ≤ 1000000) (hpt : ∀ k, k < t.ps.length → 0 ≤ (t.ps.getD k (0, 0)).1 ∧ (t.ps.getD k (0, 0)).1 ≤ 20000 ∧ 0 ≤ (t.ps.getD k (0, 0)).2 ∧ (t.ps.getD k (0, 0)).2 ≤ 400) (D c : Nat) (sp : List Pr) (d : Int) (hd : 0 ≤ d ∧ d ≤ 100) (w : World) (hp : SlOf prC 2 w t.pA t.pn t.ps) (hs : SlOf prC 2 w (some ⟨D, 0, none⟩) t.pn sp) :
    Calls Tryz.prog 33 #[t.tab, .slice (some ⟨D, 0, none⟩) t.pn c, .int .i64 d] w fun e w' => e = .returned (.int .i64 (abvF t.ps sp d t.pn)) ∧ Below w.heap.size w w' := by
  obtain ⟨pA, sA, rA, pn, pc, sn, sc, rn, rc, ps, ss, rs⟩ := t
  simp only [Tm.tab] at *
  have HP := Lib.hid hp; have HS := Lib.hid hs
  have HPN := Lib.hid hp.1; have HSN := Lib.hid hs.1
  have HPT := Lib.hid hpt
  clear hp hs hpt
  have B0 := Lib.hid (newB (Below.refl w.heap.size w) (.cells #[.slice pA pn pc, .slice sA sn sc] 25))
  have P0 := Lib.hid (Has.new w 25 #[.slice pA pn pc, .slice sA sn sc])
  go_enter Tryz.func33, Tryz.ntmps33
  go_wp2
  go_loopw [7] (fun v wr => ∃ k : Nat, k ≤ pn ∧ v = .int .i64 k ∧ Below w.heap.size w wr ∧ Has wr w.heap.size 25 #[.slice pA pn pc, .slice sA sn sc] ∧ ∀ j : Nat, j < k → decide ((sp.getD j (0, 0)).2 > (ps.getD j (0, 0)).1 + (ps.getD j (0, 0)).2 * d) = false) (fun v _ => pn - (intOf v).toNat)
  case atStart => exact ⟨0, by omega, rfl, B0.out, P0.out, fun j hj => absurd hj (by omega)⟩
  case round =>
    obtain ⟨k, hk, rfl, hB, hT, hA⟩ := hrel
    have HB := Lib.hid hB; have HA := Lib.hid hA; have HT := Lib.hid hT
    have hz := hB.size; have hcell := hT.cell
    clear hB hA hT
    by_cases hkn : k < pn
    · have hkl : k < ps.length := by rw [HPN.out]; exact hkn
      have hkl2 : k < sp.length := by rw [HSN.out]; exact hkn
      have HX := Lib.hid (HPT.out k hkl)
      obtain ⟨b, o, he⟩ := HP.out.addr (by omega)
      subst he
      have hx := List.getElem?_eq_getElem hkl
      have hy := List.getElem?_eq_getElem hkl2
      have gx : ps.getD k (0, 0) = ps[k] := by simp [List.getD_eq_getElem?_getD, hkl]
      have gy : sp.getD k (0, 0) = sp[k] := by simp [List.getD_eq_getElem?_getD, hkl2]
      obtain ⟨x, hxx⟩ : ∃ x, x = ps[k] := ⟨_, rfl⟩
      obtain ⟨y, hyy⟩ : ∃ y, y = sp[k] := ⟨_, rfl⟩
      rw [← hxx] at hx gx
      rw [← hyy] at hy gy
      have hr := (HP.out.keep HB.out).range prC_len hx
      have hq := (HS.out.keep HB.out).range prC_len hy
      obtain ⟨x0, x1⟩ := x
      obtain ⟨y0, y1⟩ := y
      have hc0 : wr.cell? ⟨b, o + k * 2, none⟩ = some (.int .i64 x0) := by simpa using hr 0 _ rfl
      have hc1 : wr.cell? ⟨b, o + k * 2 + 1, none⟩ = some (.int .i64 x1) := by simpa using hr 1 _ rfl
      have hc2 : wr.cell? ⟨D, k * 2 + 1, none⟩ = some (.int .i64 y1) := by simpa using hq 1 _ rfl
      have C0 := Lib.hid hc0; have C1 := Lib.hid hc1; have C2 := Lib.hid hc2
      have hb := HX.out
      rw [gx] at hb
      simp only at hb
      have HD := Lib.hid (show decide ((sp.getD k (0, 0)).2 > (ps.getD k (0, 0)).1 + (ps.getD k (0, 0)).2 * d) = decide (y1 > x0 + x1 * d) by rw [gx, gy])
      have m1 : 0 ≤ x1 * d := Int.mul_nonneg hb.2.2.1 hd.1
      have m2 : x1 * d ≤ 400 * d := Int.mul_le_mul_of_nonneg_right hb.2.2.2 hd.1
      have w1 : IntKind.i64.wrap (x1 * d) = x1 * d := wI (by omega) (by omega)
      have w2 : IntKind.i64.wrap (x0 + x1 * d) = x0 + x1 * d := wI (by omega) (by omega)
      clear hx hy gx gy hxx hyy hr hq hc0 hc1 hc2 hb m1 m2
      by_cases hgt : y1 > x0 + x1 * d
      · have HG := Lib.hid (HD.out.trans (decide_eq_true hgt))
        go_wp2
        refine wp_free 21 (by kernel_rfl) (by kernel_rfl) (by kernel_rfl) (by decide) ?_
        intro K hK
        iterate 21 (apply Obl.val (by decide) (by kernel_rfl); (intro w' hb; have := (HT.out.after hb).cell; have := ccell hb C0.out; have := ccell hb C1.out; have := ccell hb C2.out; go_simp; try rfl))
        apply Obl.nil
        apply hK
        intro w2' hb
        simp only [Act.put, List.setIfInBounds_toArray, List.set_cons_zero, List.set_cons_succ, List.drop_succ_cons, List.drop_zero]
        clear hK K
        have HB2 := Lib.hid (nextB HB.out hb)
        clear hb hcell
        go_wp2
        exact bodyPost_ret (results_tmp rfl _ _ _) rfl ⟨by unfold abvF; rw [firstP_at pn hkn HA.out HG.out]; rfl, HB2.out⟩
      · have HG := Lib.hid (HD.out.trans (decide_eq_false hgt))
        go_wp2
        refine wp_free 21 (by kernel_rfl) (by kernel_rfl) (by kernel_rfl) (by decide) ?_
        intro K hK
        iterate 21 (apply Obl.val (by decide) (by kernel_rfl); (intro w' hb; have := (HT.out.after hb).cell; have := ccell hb C0.out; have := ccell hb C1.out; have := ccell hb C2.out; go_simp; try rfl))
        apply Obl.nil
        apply hK
        intro w2' hb
        simp only [Act.put, List.setIfInBounds_toArray, List.set_cons_zero, List.set_cons_succ, List.drop_succ_cons, List.drop_zero]
        clear hK K
        have HB2 := Lib.hid (nextB HB.out hb); have HT2 := Lib.hid (HT.out.after hb)
        clear hb hcell
        go_wp2
        go_roundw
        case rel => exact ⟨k + 1, by omega, by go_num, HB2.out, HT2.out, fun j hj => by
          rcases Nat.lt_succ_iff_lt_or_eq.1 hj with h | rfl
          · exact HA.out j h
          · exact HG.out⟩
        case measure => simp [intOf]; omega
    · have HN := Lib.hid (show abvF ps sp d pn = -1 by
        have h1 := (firstP_none (f := fun k => decide ((sp.getD k (0, 0)).2 > (ps.getD k (0, 0)).1 + (ps.getD k (0, 0)).2 * d)) pn).2 fun p hp => HA.out p (by omega)
        have h2 := abvF_ge ps sp d pn
        unfold abvF at *
        omega)
      go_wp2
      exact bodyPost_ret (results_tmp rfl _ _ _) rfl ⟨by rw [HN.out]; rfl, HB.out⟩
end Go.Proofs
