/-
  Contracts of Load, and of the specification's Span and Load, hold at every integer of moderate size.
-/
import Derived.Test.YtahochgbkhpefaaGreatDoorP9
namespace Go.Proofs
open Go.RowKit Go.Shelf Gas
attribute [local go_sem ↓] Go.wp_at_zero Go.wp_at_succ

/-- The specification's Span. -/
theorem Span_c (l h low high wide : Int) (h0 : 0 ≤ low) (h1 : high ≤ 100000) (w : World) :
    Calls Tryz.prog 23 #[.agg #[.int .i64 l, .int .i64 h], .int .i64 low, .int .i64 high, .int .i64 wide] w fun e w' => e = .returned (.bool (ordB l h low high wide)) ∧ Below w.heap.size w w' := by
  by_cases a : low ≤ l
  · by_cases b : l ≤ h
    · by_cases c : h ≤ high
      · by_cases d : h - l ≤ wide
        · have E := Lib.hid (show ordB l h low high wide = true by simp [ordB]; omega)
          go_enter Tryz.func23, Tryz.ntmps23
          go_wp2
          exact bodyPost_ret (results_tmp rfl _ _ _) rfl ⟨by rw [E.out]; first | rfl | (simp; omega), newB (Below.refl _ _) _⟩
        · have E := Lib.hid (show ordB l h low high wide = false by simp [ordB]; omega)
          go_enter Tryz.func23, Tryz.ntmps23
          go_wp2
          exact bodyPost_ret (results_tmp rfl _ _ _) rfl ⟨by rw [E.out]; first | rfl | (simp; omega), newB (Below.refl _ _) _⟩
      · have E := Lib.hid (show ordB l h low high wide = false by simp [ordB]; omega)
        have e : decide (h ≤ high) = false := by simpa using c
        go_enter Tryz.func23, Tryz.ntmps23
        go_wp2
        exact bodyPost_ret (results_tmp rfl _ _ _) rfl ⟨by rw [E.out]; first | rfl | (simp; omega), newB (Below.refl _ _) _⟩
    · have E := Lib.hid (show ordB l h low high wide = false by simp [ordB]; omega)
      have e : decide (l ≤ h) = false := by simpa using b
      go_enter Tryz.func23, Tryz.ntmps23
      go_wp2
      exact bodyPost_ret (results_tmp rfl _ _ _) rfl ⟨by rw [E.out]; first | rfl | (simp; omega), newB (Below.refl _ _) _⟩
  · have E := Lib.hid (show ordB l h low high wide = false by simp [ordB]; omega)
    have e : decide (low ≤ l) = false := by simpa using a
    go_enter Tryz.func23, Tryz.ntmps23
    go_wp2
    exact bodyPost_ret (results_tmp rfl _ _ _) rfl ⟨by rw [E.out]; first | rfl | (simp; omega), newB (Below.refl _ _) _⟩

theorem Pressure_c (d : Int) (h : 0 ≤ d ∧ d ≤ 100000) (w : World) : Calls Tryz.prog 75 #[.int .i64 d] w fun e w' => e = .returned (.int .i64 (pres d)) ∧ w = w' := by
  obtain ⟨h0, h1⟩ := h
  go_enter Tryz.func75, Tryz.ntmps75
  go_wp2
  go_ret
  exact ⟨rfl, rfl⟩
theorem quo2 (p : Int) : p / 1000 = if p < 0 ∧ Int.tmod p 1000 ≠ 0 then Int.tdiv p 1000 - 1 else Int.tdiv p 1000 := by
  rcases Int.lt_or_le p 0 with h | h
  · obtain ⟨q, rfl⟩ : ∃ q : Int, p = -q := ⟨-p, by omega⟩
    rw [Int.neg_tdiv, Int.neg_tmod, Int.tdiv_eq_ediv_of_nonneg (by omega), Int.tmod_eq_emod_of_nonneg (by omega)]
    split <;> omega
  · rw [Int.tdiv_eq_ediv_of_nonneg h, Int.tmod_eq_emod_of_nonneg h]
    split <;> omega
def stepF (h r p : Int) : Int := h + (p - h) * r / 1000
theorem step_c (h r p : Int) (hh : 0 ≤ h ∧ h ≤ 20000) (hr : 0 ≤ r ∧ r ≤ 1000) (hp : 0 ≤ p ∧ p ≤ 19000) (w : World) :
    Calls Tryz.prog 74 #[.int .i64 h, .int .i64 r, .int .i64 p] w fun e w' => e = .returned (.int .i64 (stepF h r p)) ∧ w = w' := by
  have hm := mul_bd (p := p) (by omega) hh hr
  have hq := quo2 ((p - h) * r)
  have ht := tdiv_bd ((p - h) * r) hm
  have HE := Lib.hid (show stepF h r p = h + (p - h) * r / 1000 from rfl)
  have HQ := Lib.hid hq
  clear hq
  obtain ⟨a0, a1⟩ := hm; obtain ⟨b0, b1⟩ := hh; obtain ⟨c0, c1⟩ := hr; obtain ⟨e0, e1⟩ := hp; obtain ⟨f0, f1⟩ := ht
  by_cases hn : (p - h) * r < 0
  · by_cases hz : Int.tmod ((p - h) * r) 1000 = 0
    · go_enter Tryz.func74, Tryz.ntmps74
      go_wp2
      go_ret
      refine ⟨ret_i ?_, rfl⟩
      rw [HE.out, HQ.out, if_neg (fun x => x.2 hz)]
    · go_enter Tryz.func74, Tryz.ntmps74
      go_wp2
      go_ret
      refine ⟨ret_i ?_, rfl⟩
      rw [HE.out, HQ.out, if_pos ⟨hn, hz⟩]
  · have hd : decide ((p - h) * r < 0) = false := by simpa using hn
    go_enter Tryz.func74, Tryz.ntmps74
    go_wp2
    go_ret
    refine ⟨ret_i ?_, rfl⟩
    rw [HE.out, HQ.out, if_neg (fun x => by omega)]
theorem stepF_min (h r d : Int) : stepF h r (pres d) = minF h r d := rfl
/-- The specification's Load. -/
theorem refLoad_c (h r d : Int) (n : Nat) (hh : 0 ≤ h ∧ h ≤ 20000) (hr : 0 ≤ r ∧ r ≤ 1000) (hd : 0 ≤ d ∧ d ≤ 100) (hn : n ≤ 100000) (w : World) :
    Calls Tryz.prog 25 #[.int .i64 h, .int .i64 r, .int .i64 d, .int .i64 n] w fun e w' => e = .returned (.int .i64 (loadF h r d n)) ∧ w = w' := by
  have HB := Lib.hid fun k => loadF_bd (B := 20000) (n := k) hr hd.1 hh.1 hh.2 (by unfold pres; omega)
  have HR := Lib.hid hr
  have HP := Lib.hid (show 0 ≤ pres d ∧ pres d ≤ 19000 by unfold pres; omega)
  have hd0 := hd.1; have hd1 := hd.2
  clear hh hr hd
  go_enter Tryz.func25, Tryz.ntmps25
  go_wp2
  go_loop [0, 9] (fun v i => ∃ k : Nat, k ≤ n ∧ i = .int .i64 k ∧ v = .int .i64 (loadF h r d k)) (fun _ i => n - (intOf i).toNat)
  case atStart => exact ⟨0, by omega, rfl, rfl⟩
  case round =>
    obtain ⟨k, hk, rfl, rfl⟩ := hrel
    by_cases hlt : k < n
    · go_wp2_with (first
        | (go_at_call 75; refine (Pressure_c _ (by omega) _).mono ?_; rintro e w1 ⟨rfl, rfl⟩)
        | (go_at_call 74; refine (step_c _ _ _ (HB.out k) HR.out HP.out _).mono ?_; rintro e w1 ⟨rfl, rfl⟩))
      go_round
      case rel => exact ⟨k + 1, by omega, by go_num, rfl⟩
      case measure => simp [intOf]; omega
    · obtain rfl : k = n := by omega
      go_wp2
      go_ret
      exact ⟨rfl, rfl⟩

def okL (h r d m : Int) : Bool := inB h 0 20000 && (inB r 1 400 && (inB d 0 40 && inB m 0 240))
def loadR (h r d m : Int) : Int × Int := if okL h r d m then (loadF h r d m.toNat, 0) else (0, 2)
/-- The program's Load. -/
theorem Load_c (h r d m : Int) (w : World) : Calls Tryz.prog 22 #[.int .i64 h, .int .i64 r, .int .i64 d, .int .i64 m] w fun e w' => e = .returned (.tuple #[.int .i64 (loadR h r d m).1, .int .i64 (loadR h r d m).2]) ∧ w = w' := by
  have HS := Lib.hid fun (H : okL h r d m = true) => (show loadR h r d m = (loadF h r d m.toNat, 0) by simp [loadR, H])
  have HF := Lib.hid fun (H : okL h r d m = false) => (show loadR h r d m = (0, 2) by simp [loadR, H])
  cases a : inB h 0 20000
  · have A := Lib.hid a; have E := Lib.hid (HF.out (by simp [okL, a])); clear a HS HF
    go_enter Tryz.func22, Tryz.ntmps22
    go_wp2_with (go_at_call 67; refine (within_c _ _ _ _).mono ?_; rintro e w1 ⟨rfl, rfl⟩; rw [A.out])
    exact bodyPost_ret (results_tmp2 rfl _ _ _) rfl ⟨by rw [E.out]; rfl, rfl⟩
  · have A := Lib.hid a
    cases b : inB r 1 400
    · have B := Lib.hid b; have E := Lib.hid (HF.out (by simp [okL, b])); clear a b HS HF
      go_enter Tryz.func22, Tryz.ntmps22
      go_wp2_with (go_at_call 67; refine (within_c _ _ _ _).mono ?_; rintro e w1 ⟨rfl, rfl⟩; first | rw [A.out] | rw [B.out])
      exact bodyPost_ret (results_tmp2 rfl _ _ _) rfl ⟨by rw [E.out]; rfl, rfl⟩
    · have B := Lib.hid b
      cases c : inB d 0 40
      · have C := Lib.hid c; have E := Lib.hid (HF.out (by simp [okL, c])); clear a b c HS HF
        go_enter Tryz.func22, Tryz.ntmps22
        go_wp2_with (go_at_call 67; refine (within_c _ _ _ _).mono ?_; rintro e w1 ⟨rfl, rfl⟩; first | rw [A.out] | rw [B.out] | rw [C.out])
        exact bodyPost_ret (results_tmp2 rfl _ _ _) rfl ⟨by rw [E.out]; rfl, rfl⟩
      · have C := Lib.hid c
        cases dd : inB m 0 240
        · have D := Lib.hid dd; have E := Lib.hid (HF.out (by simp [okL, dd])); clear a b c dd HS HF
          go_enter Tryz.func22, Tryz.ntmps22
          go_wp2_with (go_at_call 67; refine (within_c _ _ _ _).mono ?_; rintro e w1 ⟨rfl, rfl⟩; first | rw [A.out] | rw [B.out] | rw [C.out] | rw [D.out])
          exact bodyPost_ret (results_tmp2 rfl _ _ _) rfl ⟨by rw [E.out]; rfl, rfl⟩
        · have D := Lib.hid dd; have E := Lib.hid (HS.out (by simp [okL, a, b, c, dd]))
          have p1 := of_decide_eq_true a; have p2 := of_decide_eq_true b; have p3 := of_decide_eq_true c; have p4 := of_decide_eq_true dd
          obtain ⟨n, rfl⟩ : ∃ n : Nat, m = n := ⟨m.toNat, by omega⟩
          have HL := Lib.hid fun (W : World) => load_c h r d n (by omega) (by omega) (by omega) (by omega) W
          clear a b c dd HS HF p1 p2 p3 p4
          go_enter Tryz.func22, Tryz.ntmps22
          go_wp2_with (first
            | (go_at_call 67; refine (within_c _ _ _ _).mono ?_; rintro e w1 ⟨rfl, rfl⟩; first | rw [A.out] | rw [B.out] | rw [C.out] | rw [D.out])
            | (go_at_call 73; refine (HL.out _).mono ?_; rintro e w1 ⟨rfl, rfl⟩))
          exact bodyPost_ret (results_tmp2 rfl _ _ _) rfl ⟨by rw [E.out]; rfl, rfl⟩
end Go.Proofs
