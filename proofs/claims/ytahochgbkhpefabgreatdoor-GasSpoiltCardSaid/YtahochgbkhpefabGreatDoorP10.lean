/-
  Contracts of Load, and of the specification's Span and Load, hold at every integer of moderate size.
-/
import Derived.Test.YtahochgbkhpefabGreatDoorP9
namespace Go.Proofs
open Go.RowKit Go.Shelf Gas
attribute [local go_sem ↓] Go.wp_at_zero Go.wp_at_succ

/-- The specification's Span. -/
theorem Span_c (l h low high wide : Int) (h0 : 0 ≤ low) (h1 : high ≤ 100000) (w : World) :
    Calls Tryz.prog 67 #[.agg #[.int .i64 l, .int .i64 h], .int .i64 low, .int .i64 high, .int .i64 wide] w fun e w' => e = .returned (.bool (ordB l h low high wide)) ∧ Below w.heap.size w w' := by
  by_cases a : low ≤ l
  · by_cases b : l ≤ h
    · by_cases c : h ≤ high
      · by_cases d : h - l ≤ wide
        · have E := Lib.hid (show ordB l h low high wide = true by simp [ordB]; omega)
          go_enter Tryz.func67, Tryz.ntmps67
          go_wp2
          exact bodyPost_ret (results_tmp rfl _ _ _) rfl ⟨by rw [E.out]; first | rfl | (simp; omega), newB (Below.refl _ _) _⟩
        · have E := Lib.hid (show ordB l h low high wide = false by simp [ordB]; omega)
          go_enter Tryz.func67, Tryz.ntmps67
          go_wp2
          exact bodyPost_ret (results_tmp rfl _ _ _) rfl ⟨by rw [E.out]; first | rfl | (simp; omega), newB (Below.refl _ _) _⟩
      · have E := Lib.hid (show ordB l h low high wide = false by simp [ordB]; omega)
        have e : decide (h ≤ high) = false := by simpa using c
        go_enter Tryz.func67, Tryz.ntmps67
        go_wp2
        exact bodyPost_ret (results_tmp rfl _ _ _) rfl ⟨by rw [E.out]; first | rfl | (simp; omega), newB (Below.refl _ _) _⟩
    · have E := Lib.hid (show ordB l h low high wide = false by simp [ordB]; omega)
      have e : decide (l ≤ h) = false := by simpa using b
      go_enter Tryz.func67, Tryz.ntmps67
      go_wp2
      exact bodyPost_ret (results_tmp rfl _ _ _) rfl ⟨by rw [E.out]; first | rfl | (simp; omega), newB (Below.refl _ _) _⟩
  · have E := Lib.hid (show ordB l h low high wide = false by simp [ordB]; omega)
    have e : decide (low ≤ l) = false := by simpa using a
    go_enter Tryz.func67, Tryz.ntmps67
    go_wp2
    exact bodyPost_ret (results_tmp rfl _ _ _) rfl ⟨by rw [E.out]; first | rfl | (simp; omega), newB (Below.refl _ _) _⟩

theorem Pressure_c (d : Int) (h : 0 ≤ d ∧ d ≤ 100000) (w : World) : Calls Tryz.prog 127 #[.int .i64 d] w fun e w' => e = .returned (.int .i64 (pres d)) ∧ w = w' := by
  obtain ⟨h0, h1⟩ := h
  go_enter Tryz.func127, Tryz.ntmps127
  go_wp2
  go_ret
  exact ⟨rfl, rfl⟩
theorem quo2 (p : Int) : p / 1000 = if p < 0 ∧ Int.tmod p 1000 ≠ 0 then Int.tdiv p 1000 - 1 else Int.tdiv p 1000 := by
  rcases Int.lt_or_le p 0 with h | h
  · obtain ⟨q, rfl⟩ : ∃ q : Int, p = -q := ⟨-p, by omega⟩
    rw [Int.neg_tdiv, Int.neg_tmod, Int.tdiv_eq_ediv_of_nonneg (by omega), Int.tmod_eq_emod_of_nonneg (by omega)]
    split <;> omega
  · rw [Int.tdiv_eq_ediv_of_nonneg h, Int.tmod_eq_emod_of_nonneg h]
    split <;> omega
def stepF (h r p : Int) : Int := h + (p - h) * r / 1000
theorem step_c (h r p : Int) (hh : 0 ≤ h ∧ h ≤ 20000) (hr : 0 ≤ r ∧ r ≤ 1000) (hp : 0 ≤ p ∧ p ≤ 19000) (w : World) :
    Calls Tryz.prog 126 #[.int .i64 h, .int .i64 r, .int .i64 p] w fun e w' => e = .returned (.int .i64 (stepF h r p)) ∧ w = w' := by
  have hm := mul_bd (p := p) (by omega) hh hr
  have hq := quo2 ((p - h) * r)
  have ht := tdiv_bd ((p - h) * r) hm
  have HE := Lib.hid (show stepF h r p = h + (p - h) * r / 1000 from rfl)
  have HQ := Lib.hid hq
  clear hq
  obtain ⟨a0, a1⟩ := hm; obtain ⟨b0, b1⟩ := hh; obtain ⟨c0, c1⟩ := hr; obtain ⟨e0, e1⟩ := hp; obtain ⟨f0, f1⟩ := ht
  by_cases hn : (p - h) * r < 0
  · by_cases hz : Int.tmod ((p - h) * r) 1000 = 0
    · go_enter Tryz.func126, Tryz.ntmps126
      go_wp2
      go_ret
      refine ⟨ret_i ?_, rfl⟩
      rw [HE.out, HQ.out, if_neg (fun x => x.2 hz)]
    · go_enter Tryz.func126, Tryz.ntmps126
      go_wp2
      go_ret
      refine ⟨ret_i ?_, rfl⟩
      rw [HE.out, HQ.out, if_pos ⟨hn, hz⟩]
  · have hd : decide ((p - h) * r < 0) = false := by simpa using hn
    go_enter Tryz.func126, Tryz.ntmps126
    go_wp2
    go_ret
    refine ⟨ret_i ?_, rfl⟩
    rw [HE.out, HQ.out, if_neg (fun x => by omega)]
theorem stepF_min (h r d : Int) : stepF h r (pres d) = minF h r d := rfl
/-- The specification's Load. -/
theorem refLoad_c (h r d : Int) (n : Nat) (hh : 0 ≤ h ∧ h ≤ 20000) (hr : 0 ≤ r ∧ r ≤ 1000) (hd : 0 ≤ d ∧ d ≤ 100) (hn : n ≤ 100000) (w : World) :
    Calls Tryz.prog 125 #[.int .i64 h, .int .i64 r, .int .i64 d, .int .i64 n] w fun e w' => e = .returned (.int .i64 (loadF h r d n)) ∧ w = w' := by
  have HB := Lib.hid fun k => loadF_bd (B := 20000) (n := k) hr hd.1 hh.1 hh.2 (by unfold pres; omega)
  have HR := Lib.hid hr
  have HP := Lib.hid (show 0 ≤ pres d ∧ pres d ≤ 19000 by unfold pres; omega)
  have hd0 := hd.1; have hd1 := hd.2
  clear hh hr hd
  go_enter Tryz.func125, Tryz.ntmps125
  go_wp2
  go_loop [0, 9] (fun v i => ∃ k : Nat, k ≤ n ∧ i = .int .i64 k ∧ v = .int .i64 (loadF h r d k)) (fun _ i => n - (intOf i).toNat)
  case atStart => exact ⟨0, by omega, rfl, rfl⟩
  case round =>
    obtain ⟨k, hk, rfl, rfl⟩ := hrel
    by_cases hlt : k < n
    · go_wp2_with (first
        | (go_at_call 127; refine (Pressure_c _ (by omega) _).mono ?_; rintro e w1 ⟨rfl, rfl⟩)
        | (go_at_call 126; refine (step_c _ _ _ (HB.out k) HR.out HP.out _).mono ?_; rintro e w1 ⟨rfl, rfl⟩))
      go_round
      case rel => exact ⟨k + 1, by omega, by go_num, rfl⟩
      case measure => simp [intOf]; omega
    · obtain rfl : k = n := by omega
      go_wp2
      go_ret
      exact ⟨rfl, rfl⟩

end Go.Proofs
