/-
  Contracts of Check, Claims and Settle hold at every season of moderate size.
-/
import Derived.Test.YtplhaohcmhepbaaGreatDoorP1
import Derived.Deep.RegionWith
namespace Go.Proofs
open Go.RowKit
attribute [local go_sem ↓] Go.wp_at_zero Go.wp_at_succ

theorem within_c (n lo hi : Int) (w : World) : Calls Tryz.prog 102 #[.int .i64 n, .int .i64 lo, .int .i64 hi] w fun e w' => e = .returned (.bool (inB n lo hi)) ∧ w = w' := by
  unfold inB
  by_cases h1 : lo ≤ n
  · by_cases h2 : n ≤ hi
    · go_enter Tryz.func102, Tryz.ntmps102
      go_wp2
      go_ret
      simp [h1, h2]
    · go_enter Tryz.func102, Tryz.ntmps102
      go_wp2
      go_ret
      simp [h2]
  · have hd : decide (lo ≤ n) = false := by simpa using h1
    go_enter Tryz.func102, Tryz.ntmps102
    go_wp2
    go_ret
    simp

theorem and_oneS (x : Int) : Op.intBits .and .i64 x 1 = (pure (.int .i64 (x % 2)) : Sem Value) := by
  have e : (BitVec.ofInt 64 x &&& BitVec.ofInt 64 1).toNat = (x % 2).toNat := by
    rw [BitVec.toNat_and, BitVec.toNat_ofInt, BitVec.toNat_ofInt]
    have : ((1 : Int) % ((2 ^ 64 : Nat) : Int)).toNat = 1 := by decide
    rw [this, Nat.and_one_is_mod]
    have h0 : (0 : Int) ≤ x % ((2 ^ 64 : Nat) : Int) := Int.emod_nonneg _ (by decide)
    have h1 : x % ((2 ^ 64 : Nat) : Int) % 2 = x % 2 := Int.emod_emod_of_dvd x (by decide)
    omega
  have w : IntKind.i64.wrap (((x % 2).toNat : Nat) : Int) = x % 2 := by rw [IntKind.wrap_i64]; omega
  show (pure (Value.int .i64 (IntKind.i64.wrap ((BitVec.ofInt 64 x &&& BitVec.ofInt 64 1).toNat))) : Sem Value) = _
  rw [e, w]
theorem ret_i {k : IntKind} {a b : Int} (h : a = b) : Ending.returned (.int k a) = .returned (.int k b) := by rw [h]

theorem has_c (s : Int) (k : Nat) (hk : k ≤ 60) (w : World) : Calls Tryz.prog 128 #[.int .i64 s, .int .i64 k] w fun e w' => e = .returned (.bool (hasB s k)) ∧ w = w' := by
  have h1 := and_oneS (s / 2 ^ k)
  have h2 := shift_shr .i64 .i64 s k (by omega) (by simp only [IntKind.bits]; omega)
  rw [Int.toNat_natCast] at h2
  go_enter Tryz.func128, Tryz.ntmps128
  go_wp2
  go_ret
  exact ⟨by simp [hasB], rfl⟩

theorem pow2_bd (n : Nat) (h : n ≤ 20) : 1 ≤ (2 : Int) ^ n ∧ (2 : Int) ^ n ≤ 1048576 := by
  have h1 : (2 : Nat) ^ n ≤ 2 ^ 20 := Nat.pow_le_pow_right (by omega) h
  have h2 : 0 < (2 : Nat) ^ n := Nat.pow_pos (by omega)
  have e : ((2 ^ n : Nat) : Int) = (2 : Int) ^ n := by push_cast; rfl
  rw [← e]
  omega
theorem isSet_c (s : Int) (n : Nat) (hn : n ≤ 20) (w : World) : Calls Tryz.prog 127 #[.int .i64 s, .int .i64 n] w fun e w' => e = .returned (.bool (inB s 0 (2 ^ n - 1))) ∧ w = w' := by
  have E := Lib.hid (show wrap64 (wrap64 (2 ^ n) - 1) = 2 ^ n - 1 by
    obtain ⟨h0, h1⟩ := pow2_bd n hn
    rw [IntWalk.wrap64_in (2 ^ n) (by omega), IntWalk.wrap64_in (2 ^ n - 1) (by omega)])
  go_enter Tryz.func127, Tryz.ntmps127
  go_wp2_with (go_at_call 102; refine (within_c _ _ _ _).mono ?_; rintro e w1 ⟨rfl, rfl⟩)
  go_ret
  refine ⟨?_, rfl⟩
  show Ending.returned (.bool (inB s 0 (wrap64 (wrap64 (2 ^ n) - 1)))) = _
  rw [E.out]

set_option maxHeartbeats 1000000 in
theorem sum_c (A : Option Addr) (n c : Nat) (xs : List Int) (hn : n ≤ 1000000) (hs : ∀ k, k ≤ n → -4000000000000000000 ≤ sumI (xs.take k) ∧ sumI (xs.take k) ≤ 4000000000000000000) (w : World) (hA : SlOf inC 1 w A n xs) :
    Calls Tryz.prog 109 #[.slice A n c] w fun e w' => e = .returned (.int .i64 (sumI xs)) ∧ Below w.heap.size w w' := by
  have HA := Lib.hid hA; have HN := Lib.hid hA.1; have HS := Lib.hid hs
  clear hA hs
  go_enter Tryz.func109, Tryz.ntmps109
  go_wp2
  go_loopw [3, 8] (fun s v wr => ∃ k : Nat, k ≤ n ∧ v = .int .i64 k ∧ s = .int .i64 (sumI (xs.take k)) ∧ Below w.heap.size w wr) (fun _ v _ => n - (intOf v).toNat)
  case atStart => exact ⟨0, by omega, rfl, by simp [sumI], Below.refl _ _⟩
  case round =>
    obtain ⟨k, hk, rfl, rfl, hB⟩ := hrel
    have HB := Lib.hid hB
    clear hB
    by_cases hkn : k < n
    · have hkl : k < xs.length := by rw [HN.out]; exact hkn
      obtain ⟨b, o, he⟩ := HA.out.addr (by omega)
      have hx := List.getElem?_eq_getElem hkl
      have ht := sumI_take xs k hkl
      obtain ⟨x, hxx⟩ : ∃ x, x = xs[k] := ⟨_, rfl⟩
      rw [← hxx] at hx ht
      subst he
      have hr := (HA.out.keep HB.out).range inC_len hx
      have hc : wr.cell? ⟨b, o + k, none⟩ = some (.int .i64 x) := by simpa using hr 0 _ rfl
      obtain ⟨s0, s1⟩ := HS.out k hk
      obtain ⟨s2, s3⟩ := HS.out (k + 1) (by omega)
      have HT := Lib.hid ht
      rw [ht] at s2 s3
      clear hx hxx hr ht
      go_wp2
      go_roundw
      case rel => exact ⟨k + 1, by omega, by go_num, by rw [HT.out], HB.out⟩
      case measure => simp [intOf]; omega
    · have hkn' : k = n := by omega
      subst hkn'
      have HE := Lib.hid (show xs.take k = xs from List.take_of_length_le (by rw [HN.out]; omega))
      go_wp2
      exact bodyPost_ret (results_tmp rfl _ _ _) rfl ⟨by rw [HE.out]; rfl, HB.out⟩

/-- The fate of a name. -/
def fateV (f : Int) : Value := if f = 1 then .iface 181 (.agg #[]) else if f = 2 then .iface 182 (.agg #[]) else if f = 3 then .iface 183 (.agg #[]) else .nilIface
theorem fateOf_c (f : Int) (w : World) : Calls Tryz.prog 135 #[.int .i64 f] w fun e w' => e = .returned (fateV f) ∧ w = w' := by
  by_cases h1 : f = 1
  · subst h1
    go_enter Tryz.func135, Tryz.ntmps135
    go_wp2
    go_ret
    exact ⟨rfl, rfl⟩
  · by_cases h2 : f = 2
    · subst h2
      go_enter Tryz.func135, Tryz.ntmps135
      go_wp2
      go_ret
      exact ⟨rfl, rfl⟩
    · by_cases h3 : f = 3
      · subst h3
        go_enter Tryz.func135, Tryz.ntmps135
        go_wp2
        go_ret
        exact ⟨rfl, rfl⟩
      · have e1 : (f == 1) = false := by simpa using h1
        have e2 : (f == 2) = false := by simpa using h2
        have e3 : (f == 3) = false := by simpa using h3
        have E := Lib.hid (show fateV f = .nilIface by simp [fateV, h1, h2, h3])
        go_enter Tryz.func135, Tryz.ntmps135
        go_wp2
        go_ret
        exact ⟨by rw [E.out]; rfl, rfl⟩

theorem net_c (g c k : Int) (hg : 0 ≤ g ∧ g ≤ 10000000000) (hc : 0 ≤ c ∧ c ≤ 10000000000) (w : World) : Calls Tryz.prog 131 #[.agg #[.int .i64 g, .int .i64 c, .int .i64 k]] w fun e w' => e = .returned (.int .i64 (netI ⟨g, c, k⟩)) ∧ Below w.heap.size w w' := by
  obtain ⟨g0, g1⟩ := hg; obtain ⟨c0, c1⟩ := hc
  go_enter Tryz.func131, Tryz.ntmps131
  go_wp2
  all_goals
    go_ret
    refine ⟨ret_i ?_, newB (Below.refl _ _) _⟩
    simp only [netI]
    omega
theorem deficit_c (g c k : Int) (hg : 0 ≤ g ∧ g ≤ 10000000000) (hc : 0 ≤ c ∧ c ≤ 10000000000) (w : World) : Calls Tryz.prog 137 #[.agg #[.int .i64 g, .int .i64 c, .int .i64 k]] w fun e w' => e = .returned (.int .i64 (defI ⟨g, c, k⟩)) ∧ Below w.heap.size w w' := by
  obtain ⟨g0, g1⟩ := hg; obtain ⟨c0, c1⟩ := hc
  go_enter Tryz.func137, Tryz.ntmps137
  go_wp2
  all_goals
    go_ret
    refine ⟨ret_i ?_, newB (Below.refl _ _) _⟩
    simp only [defI]
    omega
end Go.Proofs
namespace Go.Proofs
open Go.RowKit
attribute [local go_sem ↓] Go.wp_at_zero Go.wp_at_succ

theorem isPerson_c (p d f : Int) (w : World) : Calls Tryz.prog 125 #[.agg #[.int .i64 p, .int .i64 d, .int .i64 f]] w fun e w' => e = .returned (.bool (peB ⟨p, d, f⟩)) ∧ Below w.heap.size w w' := by
  cases h1 : inB p 1 24
  · have H1 := Lib.hid h1
    have HE := Lib.hid (show peB ⟨p, d, f⟩ = false by simp [peB, h1])
    clear h1
    go_enter Tryz.func125, Tryz.ntmps125
    go_wp2_with (go_at_call 102; refine (within_c _ _ _ _).mono ?_; rintro e w1 ⟨rfl, rfl⟩; rw [H1.out])
    exact bodyPost_ret (results_tmp rfl _ _ _) rfl ⟨by rw [HE.out]; rfl, newB (Below.refl _ _) _⟩
  · cases h2 : inB d 0 100000
    · have H1 := Lib.hid h1; have H2 := Lib.hid h2
      have HE := Lib.hid (show peB ⟨p, d, f⟩ = false by simp [peB, h2])
      clear h1 h2
      go_enter Tryz.func125, Tryz.ntmps125
      go_wp2_with (go_at_call 102; refine (within_c _ _ _ _).mono ?_; rintro e w1 ⟨rfl, rfl⟩; first | rw [H1.out] | rw [H2.out])
      exact bodyPost_ret (results_tmp rfl _ _ _) rfl ⟨by rw [HE.out]; rfl, newB (Below.refl _ _) _⟩
    · have H1 := Lib.hid h1; have H2 := Lib.hid h2
      have HE := Lib.hid (show peB ⟨p, d, f⟩ = inB f 1 3 by simp [peB, h1, h2])
      clear h1 h2
      have hf : f = 1 ∨ f = 2 ∨ f = 3 ∨ (f ≠ 1 ∧ f ≠ 2 ∧ f ≠ 3) := by omega
      rcases hf with rfl | rfl | rfl | ⟨f1, f2, f3⟩
      · go_enter Tryz.func125, Tryz.ntmps125
        go_wp2_with (first
          | (go_at_call 102; refine (within_c _ _ _ _).mono ?_; rintro e w1 ⟨rfl, rfl⟩; first | rw [H1.out] | rw [H2.out])
          | (go_at_call 135; refine (fateOf_c _ _).mono ?_; rintro e w1 ⟨rfl, rfl⟩; rw [show fateV 1 = .iface 181 (.agg #[]) from rfl]))
        exact bodyPost_ret (results_tmp rfl _ _ _) rfl ⟨by rw [HE.out]; rfl, newB (Below.refl _ _) _⟩
      · go_enter Tryz.func125, Tryz.ntmps125
        go_wp2_with (first
          | (go_at_call 102; refine (within_c _ _ _ _).mono ?_; rintro e w1 ⟨rfl, rfl⟩; first | rw [H1.out] | rw [H2.out])
          | (go_at_call 135; refine (fateOf_c _ _).mono ?_; rintro e w1 ⟨rfl, rfl⟩; rw [show fateV 2 = .iface 182 (.agg #[]) from rfl]))
        exact bodyPost_ret (results_tmp rfl _ _ _) rfl ⟨by rw [HE.out]; rfl, newB (Below.refl _ _) _⟩
      · go_enter Tryz.func125, Tryz.ntmps125
        go_wp2_with (first
          | (go_at_call 102; refine (within_c _ _ _ _).mono ?_; rintro e w1 ⟨rfl, rfl⟩; first | rw [H1.out] | rw [H2.out])
          | (go_at_call 135; refine (fateOf_c _ _).mono ?_; rintro e w1 ⟨rfl, rfl⟩; rw [show fateV 3 = .iface 183 (.agg #[]) from rfl]))
        exact bodyPost_ret (results_tmp rfl _ _ _) rfl ⟨by rw [HE.out]; rfl, newB (Below.refl _ _) _⟩
      · have E := Lib.hid (show fateV f = .nilIface by simp [fateV, f1, f2, f3])
        have HI := Lib.hid (show inB f 1 3 = false by simp [inB]; omega)
        clear f1 f2 f3
        go_enter Tryz.func125, Tryz.ntmps125
        go_wp2_with (first
          | (go_at_call 102; refine (within_c _ _ _ _).mono ?_; rintro e w1 ⟨rfl, rfl⟩; first | rw [H1.out] | rw [H2.out])
          | (go_at_call 135; refine (fateOf_c _ _).mono ?_; rintro e w1 ⟨rfl, rfl⟩; rw [E.out]))
        exact bodyPost_ret (results_tmp rfl _ _ _) rfl ⟨by rw [HE.out, HI.out]; rfl, newB (Below.refl _ _) _⟩

/-- What a fate is asked for. -/
theorem ta_c (a b : TypeId) (h : (b == 181 || b == 183) = true) (h2 : (a == 181 || a == 182 || a == 183) = true) (w : World) : (Instr.typeAssert (.iface a (.agg #[])) 156 b true).run Tryz.prog w = .ok (.tuple #[.agg #[], .bool (a == b)]) w := by
  simp only [Bool.or_eq_true, beq_iff_eq] at h h2
  rcases h with rfl | rfl <;> rcases h2 with (rfl | rfl) | rfl <;> simp [Instr.typeAssert, go_sem]
theorem ta_n (b : TypeId) (h : (b == 181 || b == 183) = true) (w : World) : (Instr.typeAssert .nilIface 156 b true).run Tryz.prog w = .ok (.tuple #[.agg #[], .bool false]) w := by
  simp only [Bool.or_eq_true, beq_iff_eq] at h
  rcases h with rfl | rfl <;> simp [Instr.typeAssert, go_sem]

theorem shares_c (p d f : Int) (w : World) : Calls Tryz.prog 138 #[.agg #[.int .i64 p, .int .i64 d, .int .i64 f]] w fun e w' => e = .returned (.bool (shB f)) ∧ Below w.heap.size w w' := by
  have hf : f = 1 ∨ f = 2 ∨ f = 3 ∨ (f ≠ 1 ∧ f ≠ 2 ∧ f ≠ 3) := by omega
  rcases hf with rfl | rfl | rfl | ⟨f1, f2, f3⟩
  · have t181 : ∀ w : World, (Instr.typeAssert (.iface 181 (.agg #[])) 156 181 true).run Tryz.prog w = .ok (.tuple #[.agg #[], .bool true]) w := ta_c 181 181 rfl rfl; have t183 : ∀ w : World, (Instr.typeAssert (.iface 181 (.agg #[])) 156 183 true).run Tryz.prog w = .ok (.tuple #[.agg #[], .bool false]) w := ta_c 181 183 rfl rfl
    go_enter Tryz.func138, Tryz.ntmps138
    go_wp2_with (go_at_call 135; refine (fateOf_c _ _).mono ?_; rintro e w1 ⟨rfl, rfl⟩; rw [show fateV 1 = .iface 181 (.agg #[]) from rfl])
    exact bodyPost_ret (results_tmp rfl _ _ _) rfl ⟨rfl, newB (Below.refl _ _) _⟩
  · have t181 : ∀ w : World, (Instr.typeAssert (.iface 182 (.agg #[])) 156 181 true).run Tryz.prog w = .ok (.tuple #[.agg #[], .bool false]) w := ta_c 182 181 rfl rfl; have t183 : ∀ w : World, (Instr.typeAssert (.iface 182 (.agg #[])) 156 183 true).run Tryz.prog w = .ok (.tuple #[.agg #[], .bool false]) w := ta_c 182 183 rfl rfl
    go_enter Tryz.func138, Tryz.ntmps138
    go_wp2_with (go_at_call 135; refine (fateOf_c _ _).mono ?_; rintro e w1 ⟨rfl, rfl⟩; rw [show fateV 2 = .iface 182 (.agg #[]) from rfl])
    exact bodyPost_ret (results_tmp rfl _ _ _) rfl ⟨rfl, newB (Below.refl _ _) _⟩
  · have t181 : ∀ w : World, (Instr.typeAssert (.iface 183 (.agg #[])) 156 181 true).run Tryz.prog w = .ok (.tuple #[.agg #[], .bool false]) w := ta_c 183 181 rfl rfl; have t183 : ∀ w : World, (Instr.typeAssert (.iface 183 (.agg #[])) 156 183 true).run Tryz.prog w = .ok (.tuple #[.agg #[], .bool true]) w := ta_c 183 183 rfl rfl
    go_enter Tryz.func138, Tryz.ntmps138
    go_wp2_with (go_at_call 135; refine (fateOf_c _ _).mono ?_; rintro e w1 ⟨rfl, rfl⟩; rw [show fateV 3 = .iface 183 (.agg #[]) from rfl])
    exact bodyPost_ret (results_tmp rfl _ _ _) rfl ⟨rfl, newB (Below.refl _ _) _⟩
  · have E := Lib.hid (show fateV f = .nilIface by simp [fateV, f1, f2, f3])
    have HI := Lib.hid (show shB f = false by simp [shB, f1, f3])
    clear f1 f2 f3
    have t181 : ∀ w : World, (Instr.typeAssert .nilIface 156 181 true).run Tryz.prog w = .ok (.tuple #[.agg #[], .bool false]) w := ta_n 181 rfl; have t183 : ∀ w : World, (Instr.typeAssert .nilIface 156 183 true).run Tryz.prog w = .ok (.tuple #[.agg #[], .bool false]) w := ta_n 183 rfl
    go_enter Tryz.func138, Tryz.ntmps138
    go_wp2_with (go_at_call 135; refine (fateOf_c _ _).mono ?_; rintro e w1 ⟨rfl, rfl⟩; rw [E.out])
    exact bodyPost_ret (results_tmp rfl _ _ _) rfl ⟨by rw [HI.out]; rfl, newB (Below.refl _ _) _⟩

theorem stays_c (p d f : Int) (w : World) : Calls Tryz.prog 140 #[.agg #[.int .i64 p, .int .i64 d, .int .i64 f]] w fun e w' => e = .returned (.bool (f == 1)) ∧ Below w.heap.size w w' := by
  have hf : f = 1 ∨ f = 2 ∨ f = 3 ∨ (f ≠ 1 ∧ f ≠ 2 ∧ f ≠ 3) := by omega
  rcases hf with rfl | rfl | rfl | ⟨f1, f2, f3⟩
  · have t181 : ∀ w : World, (Instr.typeAssert (.iface 181 (.agg #[])) 156 181 true).run Tryz.prog w = .ok (.tuple #[.agg #[], .bool true]) w := ta_c 181 181 rfl rfl
    go_enter Tryz.func140, Tryz.ntmps140
    go_wp2_with (go_at_call 135; refine (fateOf_c _ _).mono ?_; rintro e w1 ⟨rfl, rfl⟩; rw [show fateV 1 = .iface 181 (.agg #[]) from rfl])
    exact bodyPost_ret (results_tmp rfl _ _ _) rfl ⟨rfl, newB (Below.refl _ _) _⟩
  · have t181 : ∀ w : World, (Instr.typeAssert (.iface 182 (.agg #[])) 156 181 true).run Tryz.prog w = .ok (.tuple #[.agg #[], .bool false]) w := ta_c 182 181 rfl rfl
    go_enter Tryz.func140, Tryz.ntmps140
    go_wp2_with (go_at_call 135; refine (fateOf_c _ _).mono ?_; rintro e w1 ⟨rfl, rfl⟩; rw [show fateV 2 = .iface 182 (.agg #[]) from rfl])
    exact bodyPost_ret (results_tmp rfl _ _ _) rfl ⟨rfl, newB (Below.refl _ _) _⟩
  · have t181 : ∀ w : World, (Instr.typeAssert (.iface 183 (.agg #[])) 156 181 true).run Tryz.prog w = .ok (.tuple #[.agg #[], .bool false]) w := ta_c 183 181 rfl rfl
    go_enter Tryz.func140, Tryz.ntmps140
    go_wp2_with (go_at_call 135; refine (fateOf_c _ _).mono ?_; rintro e w1 ⟨rfl, rfl⟩; rw [show fateV 3 = .iface 183 (.agg #[]) from rfl])
    exact bodyPost_ret (results_tmp rfl _ _ _) rfl ⟨rfl, newB (Below.refl _ _) _⟩
  · have E := Lib.hid (show fateV f = .nilIface by simp [fateV, f1, f2, f3])
    have HI := Lib.hid (show (f == 1) = false by simp [f1])
    clear f1 f2 f3
    have t181 : ∀ w : World, (Instr.typeAssert .nilIface 156 181 true).run Tryz.prog w = .ok (.tuple #[.agg #[], .bool false]) w := ta_n 181 rfl
    go_enter Tryz.func140, Tryz.ntmps140
    go_wp2_with (go_at_call 135; refine (fateOf_c _ _).mono ?_; rintro e w1 ⟨rfl, rfl⟩; rw [E.out])
    exact bodyPost_ret (results_tmp rfl _ _ _) rfl ⟨by rw [HI.out]; rfl, newB (Below.refl _ _) _⟩

/-- The first k parts. -/
theorem partsOf_c (A : Option Addr) (n c : Nat) (ps : List Pe) (hn : n ≤ 20) (hp : ∀ x ∈ ps, 0 ≤ x.p ∧ x.p ≤ 1000000) (w : World) (hA : SlOf Pe.cs 3 w A n ps) :
    Calls Tryz.prog 126 #[.slice A n c] w fun e w' => e = .returned (.int .i64 (sumI (ps.map Pe.p))) ∧ Below w.heap.size w w' := by
  have HA := Lib.hid hA; have HN := Lib.hid hA.1; have HP := Lib.hid hp
  clear hA hp
  go_enter Tryz.func126, Tryz.ntmps126
  go_wp2
  go_loopw [3, 8] (fun s v wr => ∃ k : Nat, k ≤ n ∧ v = .int .i64 k ∧ Own eI w.heap.size s ((ps.take k).map Pe.p) wr ∧ Below w.heap.size w wr) (fun _ v _ => n - (intOf v).toNat)
  case atStart => exact ⟨0, by omega, rfl, by simpa using Own.nil eI w.heap.size w, Below.refl _ _⟩
  case round =>
    obtain ⟨k, hk, rfl, hO, hB⟩ := hrel
    have HB := Lib.hid hB; have HO := Lib.hid hO
    have hz := hB.size
    clear hB hO
    by_cases hkn : k < n
    · have hkl : k < ps.length := by rw [HN.out]; exact hkn
      obtain ⟨b, o, he⟩ := HA.out.addr (by omega)
      have hx := List.getElem?_eq_getElem hkl
      have HT := Lib.hid (show (ps.take (k + 1)).map Pe.p = (ps.take k).map Pe.p ++ [(ps[k]).p] by rw [← List.take_append_getElem hkl, List.map_append]; rfl)
      obtain ⟨x, hxx⟩ : ∃ x, x = ps[k] := ⟨_, rfl⟩
      rw [← hxx] at hx HT
      subst he
      have hR := Lib.hid ((HA.out.keep HB.out).range Pe.cs_len hx)
      obtain ⟨p, d, f⟩ := x
      replace hR := Lib.hid (show wr.rangeAt b (o + k * 3) [.int .i64 p, .int .i64 d, .int .i64 f] from hR.out)
      simp only at HT
      clear hx hxx
      go_wp2_with (first
        | (refine wpList_load_mid rfl 49 _ rfl b (o + k * 3) rfl _ _ hR.out Tryz.underlying49 rfl (by kernel_rfl) ?_)
        | (at_builtin; refine El.app1 eI_ok rfl _ _ rfl w.heap.size u3 ((ps.take k).map Pe.p) rfl ((HO.out.alloc (.cells #[.int .i64 p, .int .i64 d, .int .i64 f] 49)).alloc (.cells #[.int .i64 p] 3)) (by simp; omega) (wr.heap.size + 1) p rfl (Has.new' _ 3 _ (by simp)) (newB (newB HB.out _) _).size ?_; intro v3 w3 ho3 hb3 _; have HO3 := Lib.hid ho3; have HB3 := Lib.hid ((newB (newB HB.out (.cells #[.int .i64 p, .int .i64 d, .int .i64 f] 49)) (.cells #[.int .i64 p] 3)).trans hb3); clear ho3 hb3))
      go_roundw
      case rel => exact ⟨k + 1, by omega, by go_num, by rw [HT.out]; exact HO3.out, HB3.out⟩
      case measure => simp [intOf]; omega
    · have hkn' : k = n := by omega
      subst hkn'
      have HE := Lib.hid (show ps.take k = ps from List.take_of_length_le (by rw [HN.out]; omega))
      obtain ⟨A2, c2, rfl, hsl, _⟩ := HO.out.sl
      have hlen : ((ps.take k).map Pe.p).length = k := by simp [HE.out, HN.out]
      rw [hlen] at hsl
      rw [HE.out] at hsl
      have HSl := Lib.hid hsl
      have HSB := Lib.hid (show ∀ j, j ≤ k → -4000000000000000000 ≤ sumI ((ps.map Pe.p).take j) ∧ sumI ((ps.map Pe.p).take j) ≤ 4000000000000000000 from fun j hj => by
        have := sumI_bd ((ps.map Pe.p).take j) 1000000 (fun x hx => by
          obtain ⟨y, hy, rfl⟩ := List.mem_map.1 (List.mem_of_mem_take hx)
          have := HP.out y hy; omega)
        have hl : ((ps.map Pe.p).take j).length ≤ 20 := by simp; omega
        have : (1000000 : Int) * (((ps.map Pe.p).take j).length : Int) ≤ 20000000 := by omega
        omega)
      simp only [hlen]
      clear hsl hlen
      go_wp2_with (go_at_call 109; refine (sum_c A2 k c2 (ps.map Pe.p) (by omega) HSB.out _ HSl.out).mono ?_; rintro e w2 ⟨rfl, hb2⟩; have HB2 := Lib.hid hb2; clear hb2)
      exact bodyPost_ret (results_tmp rfl _ _ _) rfl ⟨rfl, nextB HB.out HB2.out⟩
end Go.Proofs
namespace Go.Proofs
open Go.RowKit
attribute [local go_sem ↓] Go.wp_at_zero Go.wp_at_succ

theorem wpList_mapUp {ops : Array Oper} {rest : List Oper} {o : Oper} {a : Act} {w : World} {Q : Exit → Act → World → Prop} (hg : o.guard = none) (m k v : Operand) (ho : o.op = .mapUpdate 111 m k v) {b : Nat} {f : Int → Int → Option Int} (p r x : Int)
    (hm : a.eval m = .map (some b)) (hk : a.eval k = bk p r) (hv : a.eval v = sv x) (hM : MapAt w b f)
    (h : ∀ o', o'.isCells = false → MapAt (w.putObj b o') b (fun p' r' => if p' = p ∧ r' = r then some x else f p' r') → wpList Tryz.prog ops Q rest (a.put o.dst undef) (w.putObj b o')) : wpList Tryz.prog ops Q (o :: rest) a w :=
  wpList_plain hg fun _ hK => by
    obtain ⟨o', h1, h2, h3⟩ := hM.update p r x
    unfold Oper.wp execOp
    simp only [ho, hm, hk, hv, Sem.run_bind, h2, Result.andThen_ok, Sem.run_pure]
    exact hK _ _ (h o' h1 h3)
theorem wpList_look {ops : Array Oper} {rest : List Oper} {o : Oper} {a : Act} {w : World} {Q : Exit → Act → World → Prop} (hg : o.guard = none) (m k : Operand) (ho : o.op = .lookup 111 m k false) {b : Nat} {f : Int → Int → Option Int} (p r : Int)
    (hm : a.eval m = .map (some b)) (hk : a.eval k = bk p r) (hM : MapAt w b f)
    (h : wpList Tryz.prog ops Q rest (a.put o.dst (.int .i64 ((f p r).getD 0))) w) : wpList Tryz.prog ops Q (o :: rest) a w :=
  wpList_plain hg fun _ hK => by
    unfold Oper.wp execOp
    simp only [ho, hm, hk, Sem.run_bind, hM.lookup p r, Result.andThen_ok, Sem.run_pure]
    exact hK _ _ h
theorem MapAt.congr {w : World} {b : Nat} {f g : Int → Int → Option Int} (h : MapAt w b f) (e : ∀ p x, f p x = g p x) : MapAt w b g := by
  have : f = g := by funext p x; exact e p x
  exact this ▸ h
theorem Spares.map {w w' : World} {e : TypeId} (h : Spares w w' e) {b : Nat} {f : Int → Int → Option Int} (hm : MapAt w b f) : MapAt w' b f :=
  hm.same (h b hm.lt (fun cs h' => by obtain ⟨es, ck, h1, _⟩ := hm.ex; rw [h'] at h1; cases h1))

theorem MapAt.far {w : World} {b : Nat} {f : Int → Int → Option Int} (h : MapAt w b f) {p : Addr} (hp : b ≠ p.block) (u : Value) : MapAt (w.setCell p u) b f := h.same (Below.heap_setCell w p u b hp)
theorem Has.put {w : World} {g b : Nat} {t : TypeId} {cs : Array Value} (h : Has w g t cs) (hne : g ≠ b) (o : Obj) : Has (w.putObj b o) g t cs := (World.putObj_heap_other hne).trans h
theorem putB {w w1 : World} (h : Below w.heap.size w w1) {b : Nat} (hb : w.heap.size ≤ b) (o : Obj) : Below w.heap.size w (w1.putObj b o) := h.grown (grownBy_putObj' w1 b o) h.size (fun k e => by cases e; exact hb)

theorem isLanding_c (g c k : Int) (n : Nat) (hn : n ≤ 20) (w : World) : Calls Tryz.prog 79 #[.agg #[.int .i64 g, .int .i64 c, .int .i64 k], .int .i64 n] w fun e w' => e = .returned (.bool (laB n ⟨g, c, k⟩)) ∧ Below w.heap.size w w' := by
  cases h1 : inB g 0 100000
  · have H1 := Lib.hid h1
    have HE := Lib.hid (show laB n ⟨g, c, k⟩ = false by simp [laB, h1])
    clear h1
    go_enter Tryz.func79, Tryz.ntmps79
    go_wp2_with (go_at_call 102; refine (within_c _ _ _ _).mono ?_; rintro e w1 ⟨rfl, rfl⟩; rw [H1.out])
    exact bodyPost_ret (results_tmp rfl _ _ _) rfl ⟨by rw [HE.out]; rfl, newB (Below.refl _ _) _⟩
  · have H1 := Lib.hid h1
    cases h2 : inB c 0 100000
    · have H2 := Lib.hid h2
      have HE := Lib.hid (show laB n ⟨g, c, k⟩ = false by simp [laB, h2])
      clear h1 h2
      go_enter Tryz.func79, Tryz.ntmps79
      go_wp2_with (go_at_call 102; refine (within_c _ _ _ _).mono ?_; rintro e w1 ⟨rfl, rfl⟩; first | rw [H1.out] | rw [H2.out])
      exact bodyPost_ret (results_tmp rfl _ _ _) rfl ⟨by rw [HE.out]; rfl, newB (Below.refl _ _) _⟩
    · have H2 := Lib.hid h2
      cases h3 : inB k 0 (2 ^ n - 1)
      · have H3 := Lib.hid h3
        have HE := Lib.hid (show laB n ⟨g, c, k⟩ = false by simp [laB, h3])
        clear h1 h2 h3
        go_enter Tryz.func79, Tryz.ntmps79
        go_wp2_with (first
          | (go_at_call 102; refine (within_c _ _ _ _).mono ?_; rintro e w1 ⟨rfl, rfl⟩; first | rw [H1.out] | rw [H2.out])
          | (go_at_call 127; refine (isSet_c _ _ hn _).mono ?_; rintro e w1 ⟨rfl, rfl⟩; rw [H3.out]))
        exact bodyPost_ret (results_tmp rfl _ _ _) rfl ⟨by rw [HE.out]; rfl, newB (Below.refl _ _) _⟩
      · have H3 := Lib.hid h3
        have HE := Lib.hid (show laB n ⟨g, c, k⟩ = hasB k 0 by simp [laB, h1, h2, h3])
        clear h1 h2 h3
        go_enter Tryz.func79, Tryz.ntmps79
        go_wp2_with (first
          | (go_at_call 102; refine (within_c _ _ _ _).mono ?_; rintro e w1 ⟨rfl, rfl⟩; first | rw [H1.out] | rw [H2.out])
          | (go_at_call 127; refine (isSet_c _ _ hn _).mono ?_; rintro e w1 ⟨rfl, rfl⟩; rw [H3.out])
          | (go_at_call 128; refine (has_c k 0 (by omega) _).mono ?_; rintro e w1 ⟨rfl, rfl⟩))
        exact bodyPost_ret (results_tmp rfl _ _ _) rfl ⟨by rw [HE.out]; rfl, newB (Below.refl _ _) _⟩

theorem gcd_step (a b : Int) (ha : 0 ≤ a) (hb : 0 < b) : Int.gcd b (Int.tmod a b) = Int.gcd a b := by
  obtain ⟨m, rfl⟩ := Int.eq_ofNat_of_zero_le ha
  obtain ⟨n, rfl⟩ := Int.eq_ofNat_of_zero_le (Int.le_of_lt hb)
  have e : Int.tmod (m : Int) (n : Int) = ((m % n : Nat) : Int) := rfl
  rw [e]
  show Nat.gcd n (m % n) = Nat.gcd m n
  rw [Nat.gcd_comm, ← Nat.gcd_rec, Nat.gcd_comm]
theorem tmod_bd (a b : Int) (ha : 0 ≤ a) (hb : 0 < b) : 0 ≤ Int.tmod a b ∧ Int.tmod a b < b := ⟨Int.tmod_nonneg _ ha, Int.tmod_lt_of_pos _ hb⟩

set_option maxHeartbeats 1000000 in
theorem lcm_c (a b : Int) (ha : 1 ≤ a ∧ a ≤ 1000000000000) (hb : 1 ≤ b ∧ b ≤ 24) (w : World) : Calls Tryz.prog 129 #[.int .i64 a, .int .i64 b] w fun e w' => e = .returned (.int .i64 (lcmI a b)) ∧ Below w.heap.size w w' := by
  have HL := Lib.hid (lcmI_bd ha hb)
  obtain ⟨a0, a1⟩ := ha; obtain ⟨b0, b1⟩ := hb
  go_enter Tryz.func129, Tryz.ntmps129
  go_wp2
  go_loopw [5, 6] (fun d r wr => ∃ x y : Int, d = .int .i64 x ∧ r = .int .i64 y ∧ 1 ≤ x ∧ x ≤ 1000000000000 ∧ 0 ≤ y ∧ y ≤ 24 ∧ Int.gcd x y = Int.gcd a b ∧ Below w.heap.size w wr) (fun _ r _ => (intOf r).toNat)
  case atStart => exact ⟨a, b, rfl, rfl, a0, a1, by omega, b1, rfl, Below.refl _ _⟩
  case round =>
    obtain ⟨x, y, rfl, rfl, x0, x1, y0, y1, hg, hB⟩ := hrel
    have HG := Lib.hid hg; have HB := Lib.hid hB
    clear hg hB
    by_cases hy : 0 < y
    · obtain ⟨t0, t1⟩ := tmod_bd x y (by omega) hy
      have ht := Lib.hid (gcd_step x y (by omega) hy)
      have hy0 : ¬ y = 0 := by omega
      have tw : IntKind.i64.wrap (Int.tmod x y) = Int.tmod x y := by rw [IntKind.wrap_i64]; omega
      go_wp2
      refine wp_free 6 (by kernel_rfl) (by kernel_rfl) (by kernel_rfl) (by decide) ?_
      intro K hK
      repeat (apply Obl.val (by decide) (by kernel_rfl); (intro w' hb; go_simp; rfl))
      apply Obl.nil
      apply hK
      intro w2 hb
      simp only [Act.put, List.setIfInBounds_toArray, List.set_cons_zero, List.set_cons_succ, List.drop_succ_cons, List.drop_zero]
      clear hK K
      have HB2 := Lib.hid (nextB HB.out hb)
      clear hb
      go_wp2
      go_roundw
      case rel => exact ⟨y, Int.tmod x y, rfl, by go_num, by omega, by omega, t0, by omega, by rw [ht.out, HG.out], HB2.out⟩
      case measure => simp [intOf]; omega
    · obtain rfl : y = 0 := by omega
      have hx : x = (Int.gcd a b : Int) := by have := HG.out; rw [← this]; simp [Int.gcd]; omega
      obtain ⟨l0, l1, l2, l3, l4⟩ := HL.out
      have q : Int.tdiv a x = a / x := Int.tdiv_eq_ediv_of_nonneg (by omega)
      have HX := Lib.hid (show lcmI a b = a / x * b by unfold lcmI; rw [hx])
      rw [← hx] at l2 l3 l4
      rw [HX.out] at l0 l1
      have m1 : a / x * b ≤ 24000000000000 := by omega
      clear HG HL hx
      generalize a / x = z at *
      go_wp2
      exact bodyPost_ret (results_tmp rfl _ _ _) rfl ⟨by rw [HX.out]; rfl, HB.out⟩
end Go.Proofs
namespace Go.Proofs
open Go.RowKit
attribute [local go_sem ↓] Go.wp_at_zero Go.wp_at_succ

set_option maxHeartbeats 2000000 in
theorem shas_c (pA lA : Option Addr) (pn pc ln lc : Nat) (ps : List Pe) (ls : List La) (d : Int) (m : Value) (l k : Nat) (x : Pe) (y : La) (hx : ps[k]? = some x) (hy : ls[l]? = some y) (hk : k ≤ 60) (hln : ln ≤ 1000000) (w : World)
    (hp : SlOf Pe.cs 3 w pA pn ps) (hl : SlOf La.cs 3 w lA ln ls) :
    Calls Tryz.prog 132 #[.agg #[.slice pA pn pc, .slice lA ln lc, .int .i64 d, m], .agg #[.int .i64 l, .int .i64 k]] w fun e w' => e = .returned (.bool (hasB y.w k && shB x.f)) ∧ Below w.heap.size w w' := by
  have hkn : k < pn := by rw [← hp.1]; exact (List.getElem?_eq_some_iff.1 hx).1
  have hlm : l < ln := by rw [← hl.1]; exact (List.getElem?_eq_some_iff.1 hy).1
  obtain ⟨b, o, rfl⟩ := hp.addr (by omega)
  obtain ⟨c, q, rfl⟩ := hl.addr (by omega)
  have R1 := Lib.hid (hp.range Pe.cs_len hx)
  have R2 := Lib.hid (hl.range La.cs_len hy)
  obtain ⟨x0, x1, x2⟩ := x; obtain ⟨y0, y1, y2⟩ := y
  have hpl := hp.lt Pe.cs_len (by omega) (by omega)
  have hll := hl.lt La.cs_len (by omega) (by omega)
  have c0 : w.cell? ⟨b, o + k * 3, none⟩ = some (.int .i64 x0) := R1.out 0 _ rfl
  have c1 : w.cell? ⟨b, o + k * 3 + 1, none⟩ = some (.int .i64 x1) := R1.out 1 _ rfl
  have c2 : w.cell? ⟨b, o + k * 3 + 2, none⟩ = some (.int .i64 x2) := R1.out 2 _ rfl
  have d2 : w.cell? ⟨c, q + l * 3 + 2, none⟩ = some (.int .i64 y2) := R2.out 2 _ rfl
  have C := Lib.hid (show (∀ w', Below w.heap.size w w' → w'.cell? ⟨b, o + k * 3, none⟩ = some (.int .i64 x0) ∧ w'.cell? ⟨b, o + k * 3 + 1, none⟩ = some (.int .i64 x1) ∧ w'.cell? ⟨b, o + k * 3 + 2, none⟩ = some (.int .i64 x2) ∧ w'.cell? ⟨c, q + l * 3 + 2, none⟩ = some (.int .i64 y2)) from fun w' hb =>
    ⟨(hb.cell hpl).trans c0, (hb.cell hpl).trans c1, (hb.cell hpl).trans c2, (hb.cell hll).trans d2⟩)
  have F2 := Lib.hid ((Has.new w 113 #[.slice (some ⟨b, o, none⟩) pn pc, .slice (some ⟨c, q, none⟩) ln lc, .int .i64 d, m]).alloc (.cells #[.int .i64 l, .int .i64 k] 154))
  have F3 := Lib.hid (Has.new' (w.alloc (.cells #[.slice (some ⟨b, o, none⟩) pn pc, .slice (some ⟨c, q, none⟩) ln lc, .int .i64 d, m] 113)) 154 #[.int .i64 l, .int .i64 k] (g := w.heap.size + 1) (by simp))
  have B := Lib.hid (newB (newB (Below.refl w.heap.size w) (.cells #[.slice (some ⟨b, o, none⟩) pn pc, .slice (some ⟨c, q, none⟩) ln lc, .int .i64 d, m] 113)) (.cells #[.int .i64 l, .int .i64 k] 154))
  clear hp hl hx hy R1 R2 c0 c1 c2 d2 hpl hll
  cases h1 : hasB y2 k
  · have H1 := Lib.hid h1
    clear h1
    go_enter Tryz.func132, Tryz.ntmps132
    go_wp2
    generalize (w.alloc (.cells #[.slice (some ⟨b, o, none⟩) pn pc, .slice (some ⟨c, q, none⟩) ln lc, .int .i64 d, m] 113)).alloc (.cells #[.int .i64 l, .int .i64 k] 154) = W0 at *
    refine wp_free 22 (by kernel_rfl) (by kernel_rfl) (by kernel_rfl) (by decide) ?_
    intro K hK
    iterate 10 (apply Obl.val (by decide) (by kernel_rfl); (intro w' hb; have q2 := (F2.out.after hb).cell; have q3 := (F3.out.after hb).cell; obtain ⟨e0, e1, e2, e3⟩ := C.out w' (nextB B.out hb); go_simp; rfl))
    (apply Obl.call (f := 128) (by decide) (by kernel_rfl); (intro w' hb; go_simp; exact rfl); (intro w' hb; exact same_calls ((has_c y2 k hk w').mono (by rintro e w1 ⟨rfl, rfl⟩; rw [H1.out]; exact ⟨rfl, rfl⟩))))
    iterate 1 (apply Obl.val (by decide) (by kernel_rfl); (intro w' hb; have q2 := (F2.out.after hb).cell; have q3 := (F3.out.after hb).cell; obtain ⟨e0, e1, e2, e3⟩ := C.out w' (nextB B.out hb); go_simp; rfl))
    iterate 8 (apply Obl.skip (by decide) (by kernel_rfl))
    iterate 2 (apply Obl.val (by decide) (by kernel_rfl); (intro w' hb; have q2 := (F2.out.after hb).cell; have q3 := (F3.out.after hb).cell; obtain ⟨e0, e1, e2, e3⟩ := C.out w' (nextB B.out hb); go_simp; rfl))
    apply Obl.nil
    apply hK
    intro w2 hb
    simp only [Act.put, List.setIfInBounds_toArray, List.set_cons_zero, List.set_cons_succ, List.drop_succ_cons, List.drop_zero]
    clear hK K
    have HB := Lib.hid (nextB B.out hb)
    clear hb
    go_wp2
    exact bodyPost_ret (results_tmp rfl _ _ _) rfl ⟨rfl, HB.out⟩
  · have H1 := Lib.hid h1
    clear h1
    go_enter Tryz.func132, Tryz.ntmps132
    go_wp2
    generalize (w.alloc (.cells #[.slice (some ⟨b, o, none⟩) pn pc, .slice (some ⟨c, q, none⟩) ln lc, .int .i64 d, m] 113)).alloc (.cells #[.int .i64 l, .int .i64 k] 154) = W0 at *
    refine wp_free 22 (by kernel_rfl) (by kernel_rfl) (by kernel_rfl) (by decide) ?_
    intro K hK
    iterate 10 (apply Obl.val (by decide) (by kernel_rfl); (intro w' hb; have q2 := (F2.out.after hb).cell; have q3 := (F3.out.after hb).cell; obtain ⟨e0, e1, e2, e3⟩ := C.out w' (nextB B.out hb); go_simp; rfl))
    (apply Obl.call (f := 128) (by decide) (by kernel_rfl); (intro w' hb; go_simp; exact rfl); (intro w' hb; exact same_calls ((has_c y2 k hk w').mono (by rintro e w1 ⟨rfl, rfl⟩; rw [H1.out]; exact ⟨rfl, rfl⟩))))
    iterate 8 (apply Obl.val (by decide) (by kernel_rfl); (intro w' hb; have q2 := (F2.out.after hb).cell; have q3 := (F3.out.after hb).cell; obtain ⟨e0, e1, e2, e3⟩ := C.out w' (nextB B.out hb); go_simp; rfl))
    (apply Obl.call (f := 138) (by decide) (by kernel_rfl); (intro w' hb; go_simp; exact rfl); (intro w' hb; exact shares_c x0 x1 x2 w'))
    iterate 2 (apply Obl.val (by decide) (by kernel_rfl); (intro w' hb; have q2 := (F2.out.after hb).cell; have q3 := (F3.out.after hb).cell; obtain ⟨e0, e1, e2, e3⟩ := C.out w' (nextB B.out hb); go_simp; rfl))
    apply Obl.nil
    apply hK
    intro w2 hb
    simp only [Act.put, List.setIfInBounds_toArray, List.set_cons_zero, List.set_cons_succ, List.drop_succ_cons, List.drop_zero]
    clear hK K
    have HB := Lib.hid (nextB B.out hb)
    clear hb
    go_wp2
    exact bodyPost_ret (results_tmp rfl _ _ _) rfl ⟨rfl, HB.out⟩
end Go.Proofs
namespace Go.Proofs
open Go.RowKit
attribute [local go_sem ↓] Go.wp_at_zero Go.wp_at_succ

/-- A season as it lies in memory. -/
structure Sv where
  (pA lA : Option Addr) (pn pc ln lc : Nat) (ps : List Pe) (ls : List La)
structure Sv.In (s : Sv) (w : World) : Prop where
  ps : SlOf Pe.cs 3 w s.pA s.pn s.ps
  ls : SlOf La.cs 3 w s.lA s.ln s.ls
theorem Sv.In.keep {s : Sv} {w w' : World} (h : s.In w) (hb : Below w.heap.size w w') : s.In w' := ⟨h.ps.keep hb, h.ls.keep hb⟩
def Sv.val (s : Sv) : Value := .agg #[.slice s.pA s.pn s.pc, .slice s.lA s.ln s.lc]
/-- A season with its claims. -/
def Sv.set (s : Sv) (d : Int) (m : Value) : Value := .agg #[.slice s.pA s.pn s.pc, .slice s.lA s.ln s.lc, .int .i64 d, m]
def Sv.cells (s : Sv) (d : Int) (m : Value) : Array Value := #[.slice s.pA s.pn s.pc, .slice s.lA s.ln s.lc, .int .i64 d, m]

set_option maxHeartbeats 2000000 in
theorem sharers_c (s : Sv) (d : Int) (m : Value) (l : Nat) (y : La) (hy : s.ls[l]? = some y) (hpn : s.pn ≤ 20) (hln : s.ln ≤ 1000000) (w : World) (hi : s.In w) :
    Calls Tryz.prog 130 #[s.set d m, .int .i64 l] w (Gives eP w (shFrom y.w 0 s.ps)) := by
  have HC := Lib.hid fun (w' : World) (hb : Below w.heap.size w w') (k : Nat) (x : Pe) (hx : s.ps[k]? = some x) => shas_c s.pA s.lA s.pn s.pc s.ln s.lc s.ps s.ls d m l k x y hx hy (by have := hi.ps.1; have := (List.getElem?_eq_some_iff.1 hx).1; omega) hln w' (hi.ps.keep hb) (hi.ls.keep hb)
  obtain ⟨pA, lA, pn, pc, ln, lc, ps, ls⟩ := s
  obtain ⟨hp, hl⟩ := hi
  simp only [Sv.set] at *
  have HP := Lib.hid hp; have HN := Lib.hid hp.1
  have F0 := Lib.hid (Has.new w 113 #[.slice pA pn pc, .slice lA ln lc, .int .i64 d, m])
  have B0 := Lib.hid (newB (Below.refl w.heap.size w) (.cells #[.slice pA pn pc, .slice lA ln lc, .int .i64 d, m] 113))
  clear hp hl hy
  go_enter Tryz.func130, Tryz.ntmps130
  go_wp2
  go_loopw [5, 12] (fun v i wr => ∃ k : Nat, k ≤ pn ∧ i = .int .i64 k ∧ Own eP w.heap.size v (shFrom y.w 0 (ps.take k)) wr ∧ Below w.heap.size w wr ∧ Has wr w.heap.size 113 #[.slice pA pn pc, .slice lA ln lc, .int .i64 d, m]) (fun _ i _ => pn - (intOf i).toNat)
  case atStart => exact ⟨0, by omega, rfl, by simpa [shFrom] using (Own.nil eP w.heap.size _), B0.out, F0.out⟩
  case round =>
    obtain ⟨k, hk, rfl, hO, hB, hF⟩ := hrel
    have HB := Lib.hid hB; have HO := Lib.hid hO; have HF := Lib.hid hF
    have hz := hB.size
    have cf := hF.cell
    clear hB hO hF
    by_cases hkn : k < pn
    · have hkl : k < ps.length := by rw [HN.out]; exact hkn
      obtain ⟨b, o, he⟩ := HP.out.addr (by omega)
      have hx := List.getElem?_eq_getElem hkl
      have HT := Lib.hid (show shFrom y.w 0 (ps.take (k + 1)) = shFrom y.w 0 (ps.take k) ++ (if hasB y.w k && shB ps[k].f then [ps[k]] else []) by
        rw [← List.take_append_getElem hkl, shFrom_snoc]; simp [Nat.min_eq_left (Nat.le_of_lt hkl)])
      have HL := Lib.hid (show (shFrom y.w 0 (ps.take k)).length ≤ 20000000 from by
        have h1 : ∀ (xs : List Pe) (j : Nat), (shFrom y.w j xs).length ≤ xs.length := by
          intro xs
          induction xs with
          | nil => intro j; simp [shFrom]
          | cons a r ih => intro j; simp only [shFrom]; have := ih (j + 1); split <;> simp <;> omega
        have := h1 (ps.take k) 0
        simp at this; omega)
      obtain ⟨x, hxx⟩ : ∃ x, x = ps[k] := ⟨_, rfl⟩
      rw [← hxx] at hx HT
      subst he
      have hR := Lib.hid ((HP.out.keep HB.out).range Pe.cs_len hx)
      have HCk := Lib.hid fun (w' : World) (hb : Below w.heap.size w w') => HC.out w' hb k x hx
      obtain ⟨x0, x1, x2⟩ := x
      simp only at HT
      replace hR := Lib.hid (show wr.rangeAt b (o + k * 3) [.int .i64 x0, .int .i64 x1, .int .i64 x2] from hR.out)
      clear hx hxx
      cases hc : (hasB y.w k && shB x2)
      · have HCC := Lib.hid hc
        have HTT := Lib.hid (show shFrom y.w 0 (ps.take (k + 1)) = shFrom y.w 0 (ps.take k) by rw [HT.out, hc]; simp)
        clear hc
        go_wp2_with (first
          | (refine wpList_load_mid rfl 49 _ rfl b (o + k * 3) rfl _ _ hR.out Tryz.underlying49 rfl (by kernel_rfl) ?_)
          | (refine wpList_load_row rfl 113 _ rfl w.heap.size rfl 113 _ (0, 0) _ (HF.out.alloc _) Tryz.underlying113 rfl (by kernel_rfl) ?_)
          | (go_at_call 132; refine (HCk.out _ (newB HB.out _)).mono ?_; rintro e w1 ⟨rfl, hb1⟩; rw [HCC.out]; have HB1 := Lib.hid hb1; clear hb1))
        go_roundw
        case rel => exact ⟨k + 1, by omega, by go_num, by rw [HTT.out]; exact (HO.out.alloc _).keep HB1.out, nextB (newB HB.out _) HB1.out, (HF.out.alloc _).after HB1.out⟩
        case measure => simp [intOf]; omega
      · have HCC := Lib.hid hc
        have HTT := Lib.hid (show shFrom y.w 0 (ps.take (k + 1)) = shFrom y.w 0 (ps.take k) ++ [⟨x0, x1, x2⟩] by rw [HT.out, hc]; simp)
        have HX := Lib.hid (Has.new wr 49 #[.int .i64 x0, .int .i64 x1, .int .i64 x2])
        clear hc
        go_wp2_with (first
          | (refine wpList_load_mid rfl 49 _ rfl b (o + k * 3) rfl _ _ hR.out Tryz.underlying49 rfl (by kernel_rfl) ?_)
          | (refine wpList_load_row rfl 113 _ rfl w.heap.size rfl 113 _ (0, 0) _ (HF.out.alloc _) Tryz.underlying113 rfl (by kernel_rfl) ?_)
          | (go_at_call 132; refine (HCk.out _ (newB HB.out _)).mono ?_; rintro e w1 ⟨rfl, hb1⟩; rw [HCC.out]; have HB1 := Lib.hid hb1; have HX1 := Lib.hid (HX.out.after hb1); clear hb1)
          | (refine wpList_load_row rfl 49 _ rfl wr.heap.size rfl 49 _ (0, 0) _ HX1.out Tryz.underlying49 rfl (by kernel_rfl) ?_)
          | (at_builtin; refine El.app1 eP_ok rfl _ _ rfl w.heap.size u5 _ rfl (((HO.out.alloc _).keep HB1.out).alloc _) HL.out w1.heap.size ⟨x0, x1, x2⟩ rfl (Has.new w1 49 _) (newB (nextB (newB HB.out _) HB1.out) _).size ?_; intro v3 w3 ho3 hb3 hsp; have HO3 := Lib.hid ho3; have HB3 := Lib.hid ((newB (nextB (newB HB.out (.cells #[.int .i64 x0, .int .i64 x1, .int .i64 x2] 49)) HB1.out) (.cells #[.int .i64 x0, .int .i64 x1, .int .i64 x2] 49)).trans hb3); have HF3 := Lib.hid (hsp.has (((HF.out.alloc (.cells #[.int .i64 x0, .int .i64 x1, .int .i64 x2] 49)).after HB1.out).alloc (.cells #[.int .i64 x0, .int .i64 x1, .int .i64 x2] 49)) (by decide)); clear ho3 hb3 hsp))
        go_roundw
        case rel => exact ⟨k + 1, by omega, by go_num, by rw [HTT.out]; exact HO3.out, HB3.out, HF3.out⟩
        case measure => simp [intOf]; omega
    · have hkn' : k = pn := by omega
      subst hkn'
      have HE := Lib.hid (show ps.take k = ps from List.take_of_length_le (by rw [HN.out]; omega))
      go_wp2
      exact bodyPost_ret (results_tmp rfl _ _ _) rfl ⟨_, rfl, by rw [← HE.out]; exact HO.out, HB.out⟩
end Go.Proofs
namespace Go.Proofs
open Go.RowKit
attribute [local go_sem ↓] Go.wp_at_zero Go.wp_at_succ

def Settled (s : Sv) (w0 : World) (e : Ending) (w' : World) : Prop := ∃ g, e = .returned (s.set (denF s.ps s.ls) (.map (some g))) ∧ MapAt w' g (clF s.ps s.ls) ∧ Below w0.heap.size w0 w'

theorem denTo_take (ps : List Pe) (ls : List La) (k : Nat) (h : k < ls.length) : denTo ps 1 (ls.take (k + 1)) = lcmI (denTo ps 1 (ls.take k)) (partsL ps ls[k].w) := by
  rw [← List.take_append_getElem h, denTo_append]; rfl

set_option maxHeartbeats 4000000 in
set_option maxRecDepth 20000 in
theorem settle_c (s : Sv) (hs : Seas s.ps s.ls) (w : World) (hi : s.In w) : Calls Tryz.prog 80 #[s.val] w (Settled s w) := by
  have hpn : s.pn ≤ 6 := by rw [← hi.ps.1]; exact hs.six
  have hln : s.ln ≤ 6 := by rw [← hi.ls.1]; exact hs.few
  have HSh := Lib.hid fun (w' : World) (hb : Below w.heap.size w w') (d : Int) (m : Value) (l : Nat) (y : La) (hy : s.ls[l]? = some y) => sharers_c s d m l y hy (by omega) (by omega) w' (hi.keep hb)
  have HHas := Lib.hid fun (w' : World) (hb : Below w.heap.size w w') (d : Int) (m : Value) (l k : Nat) (x : Pe) (y : La) (hx : s.ps[k]? = some x) (hy : s.ls[l]? = some y) => shas_c s.pA s.lA s.pn s.pc s.ln s.lc s.ps s.ls d m l k x y hx hy (by have := hi.ps.1; have := (List.getElem?_eq_some_iff.1 hx).1; omega) (by omega) w' (hi.ps.keep hb) (hi.ls.keep hb)
  obtain ⟨pA, lA, pn, pc, ln, lc, ps, ls⟩ := s
  obtain ⟨hp, hl⟩ := hi
  simp only [Sv.set, Sv.val] at *
  have HP := Lib.hid hp; have HPN := Lib.hid hp.1; have HLl := Lib.hid hl; have HLN := Lib.hid hl.1
  have HSe := Lib.hid hs
  have HD := Lib.hid fun (k : Nat) => (show 1 ≤ denTo ps 1 (ls.take k) ∧ denTo ps 1 (ls.take k) ≤ 191102976 from by
    have h1 := denTo_bd ps (ls.take k) 1 1 (fun l hl => hs.parts (hs.la l (List.mem_of_mem_take hl)).2.2.2.2.2.2) (by omega)
    have h2 := pow24 (ls.take k).length (by have := hs.few; simp; omega)
    omega)
  clear hp hl hs
  have hmm := @run_makeMap Tryz.prog
  have B3 := newB (newB (newB (newB (Below.refl w.heap.size w) (.cells #[.slice pA pn pc, .slice lA ln lc] 25)) (.cells #[.slice none 0 0, .slice none 0 0, .int .i64 0, .map none] 113)) (.map #[] 0)) (.cells #[.slice pA pn pc, .slice lA ln lc, .int .i64 1, .map (some (w.heap.size + 1 + 1))] 113)
  have F1 := ((Has.new' (w.alloc (.cells #[.slice pA pn pc, .slice lA ln lc] 25)) 113 #[.slice none 0 0, .slice none 0 0, .int .i64 0, .map none] (g := w.heap.size + 1) (by simp)).alloc (.map #[] 0)).alloc (.cells #[.slice pA pn pc, .slice lA ln lc, .int .i64 1, .map (some (w.heap.size + 1 + 1))] 113)
  have FM := (MapAt.new ((w.alloc (.cells #[.slice pA pn pc, .slice lA ln lc] 25)).alloc (.cells #[.slice none 0 0, .slice none 0 0, .int .i64 0, .map none] 113))).keep (newB (Below.refl _ _) (.cells #[.slice pA pn pc, .slice lA ln lc, .int .i64 1, .map (some (w.heap.size + 1 + 1))] 113))
  simp only [World.size_alloc] at FM
  have F3 := Has.new' (((w.alloc (.cells #[.slice pA pn pc, .slice lA ln lc] 25)).alloc (.cells #[.slice none 0 0, .slice none 0 0, .int .i64 0, .map none] 113)).alloc (.map #[] 0)) 113 #[.slice pA pn pc, .slice lA ln lc, .int .i64 1, .map (some (w.heap.size + 1 + 1))] (g := w.heap.size + 1 + 1 + 1) (by simp)
  go_enter Tryz.func80, Tryz.ntmps80
  go_wp2
  generalize (((w.alloc (.cells #[.slice pA pn pc, .slice lA ln lc] 25)).alloc (.cells #[.slice none 0 0, .slice none 0 0, .int .i64 0, .map none] 113)).alloc (.map #[] 0)).alloc (.cells #[.slice pA pn pc, .slice lA ln lc, .int .i64 1, .map (some (w.heap.size + 1 + 1))] 113) = W0 at *
  have HB3 := Lib.hid B3; have HF1 := Lib.hid F1; have HFM := Lib.hid FM; have HF3 := Lib.hid F3
  clear B3 F1 FM F3 hmm
  go_loopw [17] (fun v wr => ∃ k : Nat, k ≤ ln ∧ v = .int .i64 k ∧ Below w.heap.size w wr ∧ Has wr (w.heap.size + 1) 113 #[.slice none 0 0, .slice none 0 0, .int .i64 0, .map none] ∧ MapAt wr (w.heap.size + 1 + 1) (fun _ _ => none) ∧
      Has wr (w.heap.size + 1 + 1 + 1) 113 #[.slice pA pn pc, .slice lA ln lc, .int .i64 (denTo ps 1 (ls.take k)), .map (some (w.heap.size + 1 + 1))]) (fun v _ => ln - (intOf v).toNat)
  case atStart => exact ⟨0, by omega, rfl, HB3.out, HF1.out, HFM.out, by simpa [denTo] using HF3.out⟩
  case round =>
    obtain ⟨k, hk, rfl, hB, h1, hM, h3⟩ := hrel
    have HB := Lib.hid hB; have H1 := Lib.hid h1; have HM := Lib.hid hM; have H3 := Lib.hid h3
    have c3 := h3.cell
    have z3 := h3.lt
    clear hB h1 hM h3
    by_cases hkn : k < ln
    · have hkl : k < ls.length := by rw [HLN.out]; exact hkn
      have hy := List.getElem?_eq_getElem hkl
      have HDT := Lib.hid (denTo_take ps ls k hkl)
      have hpy := HSe.out.parts (HSe.out.la _ (List.getElem_mem hkl)).2.2.2.2.2.2
      obtain ⟨y, hyy⟩ : ∃ y, y = ls[k] := ⟨_, rfl⟩
      rw [← hyy] at hy HDT hpy
      have HY := Lib.hid hy
      have HPY := Lib.hid hpy
      clear hy hyy hpy
      go_wp2
      apply wp_loose 8 [.v _, .v _, .v _, .v _, .r (fun v w' => Own eP w.heap.size v (shFrom y.w 0 ps) w'), .v _, .v _, .v _] (by kernel_rfl) (by kernel_rfl) (by kernel_rfl) (by decide) rfl
      intro K hK
      apply OblS.val rfl
      · intro w' hb _; go_simp; rfl
      apply OblS.val rfl
      · intro w' hb _; have := (H3.out.after hb).cell; go_simp; rfl
      refine OblS.row rfl 113 _ rfl (w.heap.size + 1 + 1 + 1) rfl 113 _ _ H3.out Tryz.underlying113 rfl (by kernel_rfl) ?_
      apply OblS.val rfl
      · intro w' hb _; go_simp; rfl
      apply OblS.callR 130
      · intro v w1 w2 h hb; exact h.keep hb
      · rfl
      · intro w' hb _
        apply Exists.intro; apply And.intro; (go_simp; rfl); refine (HSh.out w' (nextB HB.out hb) _ _ k y HY.out).mono ?_
        rintro e w2 ⟨v, rfl, ho, hb2⟩
        exact ⟨v, rfl, ho.lower (nextB HB.out hb).size, hb2⟩
      intro v4
      apply OblS.call 126 rfl
      · intro w' hb hH
        have ho := hH _ (List.mem_cons_self ..) (by kernel_rfl)
        obtain ⟨A, c, rfl, hsl, _⟩ := Own.sl ho
        have hlen : (shFrom y.w 0 ps).length ≤ 20 := by
          have := shFrom_len y.w ps 0; have := HPN.out; omega
        apply Exists.intro; apply And.intro; (go_simp; rfl); exact partsOf_c A _ c (shFrom y.w 0 ps) hlen (fun x hx => by have := HSe.out.pe x (shFrom_mem _ _ _ _ hx); omega) w' hsl
      apply OblS.call 129 rfl
      · intro w' hb _; apply Exists.intro; apply And.intro; (go_simp; rfl); exact lcm_c _ _ (by have := HD.out k; omega) HPY.out w'
      apply OblS.val rfl
      · intro w' hb _; go_simp; rfl
      apply OblS.nil
      apply hK
      intro w2 hb hH
      clear hH hK K
      simp only [Act.put, List.setIfInBounds_toArray, List.set_cons_zero, List.set_cons_succ, List.drop_succ_cons, List.drop_zero]
      have HB2 := Lib.hid (nextB HB.out hb); have H12 := Lib.hid (H1.out.after hb); have HM2 := Lib.hid (HM.out.keep hb); have H32 := Lib.hid (H3.out.after hb)
      have c32 := H32.out.cell
      have f32 := H32.out.frozen
      have z32 := H32.out.lt
      clear hb c3 z3
      go_wp2
      go_roundw
      case rel => exact ⟨k + 1, by omega, by go_num, setB HB2.out (by simp; omega) _, H12.out.far (by simp) _, HM2.out.far (by simp) _, by rw [HDT.out]; simpa using H32.out.set 2 _⟩
      case measure => simp [intOf]; omega
    · have hkn' : k = ln := by omega
      subst hkn'
      have hE : denTo ps 1 (ls.take k) = denF ps ls := by rw [List.take_of_length_le (by rw [HLN.out]; omega)]; rfl
      rw [hE] at H3 c3
      have hden := HSe.out.den
      obtain ⟨D, hD⟩ : ∃ D, D = denF ps ls := ⟨_, rfl⟩
      rw [← hD] at H3 c3 hden
      have HDD := Lib.hid hD
      have HDen := Lib.hid hden
      clear hE hD hden
      obtain ⟨wo, rfl⟩ : ∃ wo : World, wo = wr := ⟨_, rfl⟩
      go_wp2
      go_loopw [33] (fun v wr => ∃ j : Nat, j ≤ k ∧ v = .int .i64 j ∧ Below w.heap.size w wr ∧ Has wr (w.heap.size + 1) 113 #[.slice none 0 0, .slice none 0 0, .int .i64 0, .map none] ∧ MapAt wr (w.heap.size + 1 + 1) (clM ps ls D j 0) ∧
          Has wr (w.heap.size + 1 + 1 + 1) 113 #[.slice pA pn pc, .slice lA k lc, .int .i64 D, .map (some (w.heap.size + 1 + 1))]) (fun v _ => k - (intOf v).toNat)
      case atStart => exact ⟨0, by omega, rfl, HB.out, H1.out, HM.out.congr (fun a b => clM_zero ps ls D a b), H3.out⟩
      case round =>
        obtain ⟨j, hj, rfl, hB, h1, hM, h3⟩ := hrel
        clear HB H1 HM H3 c3 z3
        have HB := Lib.hid hB; have H1 := Lib.hid h1; have HM := Lib.hid hM; have H3 := Lib.hid h3
        have c3 := h3.cell
        have z3 := h3.lt
        clear hB h1 hM h3
        by_cases hjn : j < k
        · have hjl : j < ls.length := by rw [HLN.out]; exact hjn
          have hy := List.getElem?_eq_getElem hjl
          have hla := HSe.out.la _ (List.getElem_mem hjl)
          have hpy := HSe.out.parts hla.2.2.2.2.2.2
          obtain ⟨b, o, he⟩ := HLl.out.addr (by omega)
          obtain ⟨y, hyy⟩ : ∃ y, y = ls[j] := ⟨_, rfl⟩
          rw [← hyy] at hy hpy hla
          subst he
          have HY := Lib.hid hy
          have HPY := Lib.hid hpy
          have HLA := Lib.hid hla
          obtain ⟨y0, y1, y2⟩ := y
          have hR := Lib.hid (show wr.rangeAt b (o + j * 3) [.int .i64 y0, .int .i64 y1, .int .i64 y2] from (HLl.out.keep HB.out).range La.cs_len hy)
          have X6 := Lib.hid (Has.new wr 44 #[.int .i64 y0, .int .i64 y1, .int .i64 y2])
          have BX := Lib.hid (newB (Below.refl wr.heap.size wr) (.cells #[.int .i64 y0, .int .i64 y1, .int .i64 y2] 44))
          have hq := div_bd (d := D) (p := partsL ps y2) (D := 191102976) (by have := HDen.out; omega) hpy.1
          have hn := netI_bd (l := ⟨y0, y1, y2⟩) ⟨hla.1, hla.2.1, hla.2.2.1, hla.2.2.2.1⟩
          have hm := mul_bd2 hn hq
          have htd : Int.tdiv D (partsL ps y2) = D / partsL ps y2 := Int.tdiv_eq_ediv_of_nonneg (by have := HDen.out; omega)
          have HQ := Lib.hid hq; have HNb := Lib.hid hn; have HMb := Lib.hid hm; have HTD := Lib.hid htd
          clear hy hyy hpy hla hq hn hm htd
          go_wp2_with (refine wpList_load_mid rfl 44 _ rfl b (o + j * 3) rfl _ _ hR.out Tryz.underlying44 rfl (by kernel_rfl) ?_)
          have B6 := Lib.hid (nextB HB.out BX.out); have H16 := Lib.hid (H1.out.after BX.out); have HM6 := Lib.hid (HM.out.keep BX.out); have H36 := Lib.hid (H3.out.after BX.out)
          generalize wr.alloc (.cells #[.int .i64 y0, .int .i64 y1, .int .i64 y2] 44) = W1 at *
          apply wp_loose 11 [.v _, .v _, .v _, .v _, .v _, .v _, .r (fun v w' => Own eP w.heap.size v (shFrom y2 0 ps) w'), .v _, .v _, .v _, .v _] (by kernel_rfl) (by kernel_rfl) (by kernel_rfl) (by decide) rfl
          intro K hK
          refine OblS.row rfl 44 _ rfl wr.heap.size rfl 44 _ _ X6.out Tryz.underlying44 rfl (by kernel_rfl) ?_
          apply OblS.call 131 rfl
          · intro w' hb _; apply Exists.intro; apply And.intro; (go_simp; rfl); exact net_c y0 y1 y2 (by have := HLA.out; omega) (by have := HLA.out; omega) w'
          apply OblS.val rfl
          · intro w' hb _; go_simp; rfl
          apply OblS.val rfl
          · intro w' hb _; have := (H36.out.after hb).cell; go_simp; rfl
          refine OblS.row rfl 113 _ rfl (w.heap.size + 1 + 1 + 1) rfl 113 _ _ H36.out Tryz.underlying113 rfl (by kernel_rfl) ?_
          apply OblS.val rfl
          · intro w' hb _; go_simp; rfl
          apply OblS.callR 130
          · intro v w1 w2 h hb; exact h.keep hb
          · rfl
          · intro w' hb _
            apply Exists.intro; apply And.intro; (go_simp; rfl); refine (HSh.out w' (nextB B6.out hb) _ _ j _ HY.out).mono ?_
            rintro e w2 ⟨v, rfl, ho, hb2⟩
            exact ⟨v, rfl, ho.lower (nextB B6.out hb).size, hb2⟩
          intro v4
          apply OblS.call (v := .int .i64 (partsL ps y2)) 126 rfl
          · intro w' hb hH
            have ho := hH _ (List.mem_cons_self ..) (by kernel_rfl)
            obtain ⟨A, c, rfl, hsl, _⟩ := Own.sl ho
            have hlen : (shFrom y2 0 ps).length ≤ 20 := by
              have := shFrom_len y2 ps 0; have := HPN.out; omega
            apply Exists.intro; apply And.intro; (go_simp; rfl); exact partsOf_c A _ c (shFrom y2 0 ps) hlen (fun x hx => by have := HSe.out.pe x (shFrom_mem _ _ _ _ hx); omega) w' hsl
          apply OblS.val (v := .int .i64 (D / partsL ps y2)) rfl
          · intro w' hb _; have hp0 : ¬ partsL ps y2 = 0 := by (have := HPY.out; omega)
            have ht1 := HTD.out; obtain ⟨q0, q1⟩ := HQ.out
            go_simp
            rw [IntKind.wrap_i64]; omega
          apply OblS.val (v := .int .i64 (netI ⟨y0, y1, y2⟩ * (D / partsL ps y2))) rfl
          · intro w' hb _; obtain ⟨m0, m1⟩ := HMb.out; go_simp; rw [IntKind.wrap_i64]; generalize netI _ * (D / partsL ps y2) = z at *; omega
          apply OblS.val rfl
          · intro w' hb _; go_simp; rfl
          apply OblS.nil
          apply hK
          intro w2 hb hH
          clear hH hK K
          simp only [Act.put, List.setIfInBounds_toArray, List.set_cons_zero, List.set_cons_succ, List.drop_succ_cons, List.drop_zero]
          have HB2 := Lib.hid (nextB B6.out hb); have H12 := Lib.hid (H16.out.after hb); have HM2 := Lib.hid (HM6.out.keep hb); have H32 := Lib.hid (H36.out.after hb)
          have c32 := H32.out.cell
          have z32 := H32.out.lt
          clear hb c3 z3 B6 H16 HM6 H36 X6 BX HB H1 HM H3
          obtain ⟨E, hE⟩ : ∃ E, E = netI ⟨y0, y1, y2⟩ * (D / partsL ps y2) := ⟨_, rfl⟩
          rw [← hE] at HMb
          rw [← hE]
          have HE := Lib.hid hE
          clear hE
          go_wp2
          go_loopw [52] (fun v wr => ∃ i : Nat, i ≤ pn ∧ v = .int .i64 i ∧ Below w.heap.size w wr ∧ Has wr (w.heap.size + 1) 113 #[.slice none 0 0, .slice none 0 0, .int .i64 0, .map none] ∧ MapAt wr (w.heap.size + 1 + 1) (clM ps ls D j i) ∧
              Has wr (w.heap.size + 1 + 1 + 1) 113 #[.slice pA pn pc, .slice (some ⟨b, o, none⟩) k lc, .int .i64 D, .map (some (w.heap.size + 1 + 1))]) (fun v _ => pn - (intOf v).toNat)
          case atStart => exact ⟨0, by omega, rfl, HB2.out, H12.out, HM2.out, H32.out⟩
          case round =>
            obtain ⟨i, hi, rfl, hB, h1, hM, h3⟩ := hrel
            clear HB2 H12 HM2 H32 c32 z32
            have HB := Lib.hid hB; have H1 := Lib.hid h1; have HM := Lib.hid hM; have H3 := Lib.hid h3
            have c3 := h3.cell
            have z3 := h3.lt
            clear hB h1 hM h3
            by_cases hin : i < pn
            · have hil : i < ps.length := by rw [HPN.out]; exact hin
              have hx := List.getElem?_eq_getElem hil
              have hpe := HSe.out.pe _ (List.getElem_mem hil)
              obtain ⟨b2, o2, he⟩ := HP.out.addr (by omega)
              obtain ⟨x, hxx⟩ : ∃ x, x = ps[i] := ⟨_, rfl⟩
              rw [← hxx] at hx hpe
              subst he
              have HX := Lib.hid hx
              obtain ⟨x0, x1, x2⟩ := x
              have hR2 := Lib.hid (show wr.rangeAt b2 (o2 + i * 3) [.int .i64 x0, .int .i64 x1, .int .i64 x2] from (HP.out.keep HB.out).range Pe.cs_len hx)
              have HC := Lib.hid fun (w' : World) (hb : Below w.heap.size w w') => HHas.out w' hb D (.map (some (w.heap.size + 1 + 1))) j i ⟨x0, x1, x2⟩ ⟨y0, y1, y2⟩ hx HY.out
              obtain ⟨p0, p1, _⟩ := hpe
              simp only at p0 p1
              clear hx hxx
              cases hc : (hasB y2 i && shB x2)
              · have HCC := Lib.hid hc
                have HNx := Lib.hid fun a b => clM_none (den := D) HX.out HY.out hc a b
                clear hc
                go_wp2_with (first
                  | (refine wpList_load_mid rfl 49 _ rfl b2 (o2 + i * 3) rfl _ _ hR2.out Tryz.underlying49 rfl (by kernel_rfl) ?_)
                  | (refine wpList_load_row rfl 113 _ rfl (w.heap.size + 1 + 1 + 1) rfl 113 _ (0, 0) _ (H3.out.alloc _) Tryz.underlying113 rfl (by kernel_rfl) ?_)
                  | (go_at_call 132; refine (HC.out _ (newB HB.out _)).mono ?_; rintro e w1 ⟨rfl, hb1⟩; rw [HCC.out]; have HB1 := Lib.hid hb1; clear hb1))
                go_roundw
                case rel => exact ⟨i + 1, by omega, by go_num, nextB (newB HB.out _) HB1.out, (H1.out.alloc _).after HB1.out, ((HM.out.keep (newB (Below.refl _ _) _)).keep HB1.out).congr HNx.out, (H3.out.alloc _).after HB1.out⟩
                case measure => simp [intOf]; omega
              · have HCC := Lib.hid hc
                have HNx := Lib.hid fun a b => clM_some (den := D) HX.out HY.out hc a b
                have X9 := Lib.hid (Has.new wr 49 #[.int .i64 x0, .int .i64 x1, .int .i64 x2])
                have hmx := mul_bd2 HMb.out (show 0 ≤ x0 ∧ x0 ≤ 24 by omega)
                obtain ⟨mx0, mx1⟩ := hmx
                clear hc
                go_wp2_with (first
                  | (refine wpList_load_mid rfl 49 _ rfl b2 (o2 + i * 3) rfl _ _ hR2.out Tryz.underlying49 rfl (by kernel_rfl) ?_)
                  | (refine wpList_load_row rfl 113 _ rfl (w.heap.size + 1 + 1 + 1) rfl 113 _ (0, 0) _ (H3.out.alloc _) Tryz.underlying113 rfl (by kernel_rfl) ?_)
                  | (go_at_call 132; refine (HC.out _ (newB HB.out _)).mono ?_; rintro e w1 ⟨rfl, hb1⟩; rw [HCC.out]; have HB1 := Lib.hid hb1; have c31 := ((H3.out.alloc (.cells #[.int .i64 x0, .int .i64 x1, .int .i64 x2] 49)).after hb1).cell; have c91 := (X9.out.after hb1).cell; clear hb1)
                  | (refine wpList_mapUp rfl _ _ _ rfl (b := w.heap.size + 1 + 1) j i (E * x0) rfl rfl rfl ((HM.out.keep (newB (Below.refl _ _) _)).keep HB1.out) ?_; intro o' _ hM'; have HM' := Lib.hid hM'; clear hM'))
                go_roundw
                case rel => exact ⟨i + 1, by omega, by go_num, putB (nextB (newB HB.out _) HB1.out) (by omega) _, ((H1.out.alloc _).after HB1.out).put (by omega) _, HM'.out.congr (fun a b => by rw [← HNx.out a b, HE.out]), ((H3.out.alloc _).after HB1.out).put (by omega) _⟩
                case measure => simp [intOf]; omega
            · have hin' : i = ps.length := by have := HPN.out; omega
              have hpl := HPN.out
              go_wp2
              go_roundw
              case rel => exact ⟨j + 1, by omega, by go_num, HB.out, H1.out, HM.out.congr (fun a b => by rw [hin']; exact clM_next ps ls D j a b), H3.out⟩
              case measure => simp [intOf]; omega
        · have hjn' : j = ls.length := by have := HLN.out; omega
          have H3r := Lib.hid fun (cs : Array Value) => H3.out.setRow_far (show w.heap.size + 1 + 1 + 1 ≠ w.heap.size + 1 by omega) cs
          go_wp2_with (first
            | (refine wpList_load_row rfl 113 _ rfl (w.heap.size + 1 + 1 + 1) rfl 113 _ (0, 0) _ H3.out Tryz.underlying113 rfl (by kernel_rfl) ?_)
            | (refine wpList_store_all rfl 113 _ _ rfl (w.heap.size + 1) rfl _ rfl 113 _ H1.out (by kernel_rfl) rfl (by simp [Value.oneCell']) ?_))
          refine bodyPost_ret (results_cell_row rfl _ _ (w.heap.size + 1) 113 _ (0, 0) _ rfl (H1.out.setRow _) Tryz.underlying113 rfl (by kernel_rfl)) rfl ⟨w.heap.size + 1 + 1, by rw [← HDD.out]; rfl, ?_, rowB HB.out (by omega) _⟩
          refine (HM.out.same (setRow_other _ _ _ _ (by omega))).congr (fun a b => ?_)
          show clM ps ls D j 0 a b = clM ps ls (denF ps ls) ls.length 0 a b
          rw [hjn', HDD.out]
end Go.Proofs
namespace Go.Proofs
open Go.RowKit
attribute [local go_sem ↓] Go.wp_at_zero Go.wp_at_succ

theorem flat_inC : ∀ xs : List Int, flat inC xs = xs.map fun x => Value.int .i64 x
  | [] => rfl
  | x :: r => by simp [flat, inC, flat_inC r]
theorem cur_flat {cur : Array Value} {n : Nat} {F : Nat → Int} (hs : cur.size = n) (h : ∀ j, j < n → cur[j]? = some (.int .i64 (F j))) : cur.toList = flat inC ((List.range n).map F) := by
  rw [flat_inC]
  apply List.ext_getElem?
  intro j
  by_cases hj : j < n
  · rw [Array.getElem?_toList, h j hj]
    simp [List.getElem?_range hj]
  · rw [List.getElem?_eq_none (by simp; omega), List.getElem?_eq_none (by simp; omega)]
theorem makeI (n : Nat) (hn : n ≤ 1000000) (w : World) : (Instr.makeSlice 30 (.int .i64 (n : Int)) (.int .i64 (n : Int))).run Tryz.prog w = .ok (.slice (some ⟨w.heap.size, 0, none⟩) n n) (w.alloc (.cells (madeCells #[.int .i64 0] n) 3)) := by have := El.makes eI_ok n hn w; rw [show n * eI.sz = n from Nat.mul_one n] at this; exact this
theorem cur_next {cur : Array Value} {k n : Nat} {F : Nat → Int} (hs : cur.size = n) (hk : k < n) (h : ∀ j, j < k → cur[j]? = some (.int .i64 (F j))) : ∀ j, j < k + 1 → (cur.setIfInBounds k (.int .i64 (F k)))[j]? = some (.int .i64 (F j)) := by
  intro j hj
  rw [Array.getElem?_setIfInBounds]
  by_cases hjk : k = j
  · subst hjk; rw [if_pos rfl, if_pos (by omega)]
  · rw [if_neg hjk]; exact h j (by omega)

set_option maxHeartbeats 2000000 in
theorem column_c (s : Sv) (d : Int) (b k : Nat) (f : Int → Int → Option Int) (hln : s.ln ≤ 1000) (w : World) (hm : MapAt w b f) :
    Calls Tryz.prog 133 #[s.set d (.map (some b)), .int .i64 k] w (Gives eI w ((List.range s.ln).map fun l : Nat => (f l k).getD 0)) := by
  obtain ⟨pA, lA, pn, pc, ln, lc, ps, ls⟩ := s
  simp only [Sv.set] at *
  have hmk := makeI ln (by omega)
  have F := Lib.hid ((Has.new w 113 #[.slice pA pn pc, .slice lA ln lc, .int .i64 d, .map (some b)]).alloc (.cells (madeCells #[.int .i64 0] ln) 3))
  have Z := Lib.hid (Has.new' (w.alloc (.cells #[.slice pA pn pc, .slice lA ln lc, .int .i64 d, .map (some b)] 113)) 3 (madeCells #[.int .i64 0] ln) (g := w.heap.size + 1) (by simp))
  have B := Lib.hid (newB (newB (Below.refl w.heap.size w) (.cells #[.slice pA pn pc, .slice lA ln lc, .int .i64 d, .map (some b)] 113)) (.cells (madeCells #[.int .i64 0] ln) 3))
  have HM := Lib.hid hm
  clear hm
  go_enter Tryz.func133, Tryz.ntmps133
  go_wp2
  generalize (w.alloc (.cells #[.slice pA pn pc, .slice lA ln lc, .int .i64 d, .map (some b)] 113)).alloc (.cells (madeCells #[.int .i64 0] ln) 3) = W0 at *
  have HSZ := Lib.hid (size_madeCells #[.int .i64 0] ln)
  generalize madeCells #[.int .i64 0] ln = mc at *
  clear hmk
  go_loopw [14] (fun v wr => ∃ (j : Nat) (cur : Array Value), j ≤ ln ∧ v = .int .i64 j ∧ Below w.heap.size w wr ∧ Has wr w.heap.size 113 #[.slice pA pn pc, .slice lA ln lc, .int .i64 d, .map (some b)] ∧ Has wr (w.heap.size + 1) 3 cur ∧ cur.size = ln
    ∧ ∀ i, i < j → cur[i]? = some (.int .i64 ((f i k).getD 0))) (fun v _ => ln - (intOf v).toNat)
  case atStart => exact ⟨0, mc, by omega, rfl, B.out, F.out, Z.out, HSZ.out, fun j hj => by omega⟩
  case round =>
    obtain ⟨j, cur, hj, rfl, hB, hF, hZ, hS, hC⟩ := hrel
    have HB := Lib.hid hB; have HF := Lib.hid hF; have HZ := Lib.hid hZ; have HS := Lib.hid hS; have HC := Lib.hid hC
    have hz := hZ.lt
    have qf := hF.cell
    have qz := hZ.cell
    have qq := hZ.frozen
    clear hB hF hZ hS hC
    by_cases hjn : j < ln
    · have HN := Lib.hid (cur_next (F := fun l : Nat => (f l k).getD 0) HS.out hjn HC.out)
      have hcj : cur[j]? = some (cur[j]'(by rw [HS.out]; exact hjn)) := Array.getElem?_eq_getElem _
      go_wp2_with (refine wpList_look rfl _ _ rfl (b := b) (f := f) j k rfl rfl (HM.out.keep HB.out) ?_)
      go_roundw
      case rel => exact ⟨j + 1, cur.setIfInBounds j (.int .i64 ((f j k).getD 0)), by omega, by go_num, setB HB.out (by simp) _, HF.out.far (by simp) _, by simpa using HZ.out.set j _, by simp [HS.out], HN.out⟩
      case measure => simp [intOf]; omega
    · have hjn' : j = ln := by omega
      subst hjn'
      have HFl := Lib.hid (cur_flat (F := fun l : Nat => (f l k).getD 0) HS.out HC.out)
      go_wp2
      exact bodyPost_ret (results_tmp rfl _ _ _) rfl ⟨_, rfl, Own.of_has (n := j) eI_ok HZ.out (by omega) (by simp) (by rw [HS.out]; exact (Nat.mul_one j).symm) HFl.out (by unfold maxLen; omega), HB.out⟩
end Go.Proofs
namespace Go.Proofs
open Go.RowKit
attribute [local go_sem ↓] Go.wp_at_zero Go.wp_at_succ

set_option maxHeartbeats 2000000 in
theorem row_c (s : Sv) (d : Int) (b k : Nat) (f : Int → Int → Option Int) (hpn : s.pn ≤ 1000) (w : World) (hm : MapAt w b f) :
    Calls Tryz.prog 108 #[s.set d (.map (some b)), .int .i64 k] w (Gives eI w ((List.range s.pn).map fun l : Nat => (f k l).getD 0)) := by
  obtain ⟨pA, lA, pn, pc, ln, lc, ps, ls⟩ := s
  simp only [Sv.set] at *
  have hmk := makeI pn (by omega)
  have F := Lib.hid ((Has.new w 113 #[.slice pA pn pc, .slice lA ln lc, .int .i64 d, .map (some b)]).alloc (.cells (madeCells #[.int .i64 0] pn) 3))
  have Z := Lib.hid (Has.new' (w.alloc (.cells #[.slice pA pn pc, .slice lA ln lc, .int .i64 d, .map (some b)] 113)) 3 (madeCells #[.int .i64 0] pn) (g := w.heap.size + 1) (by simp))
  have B := Lib.hid (newB (newB (Below.refl w.heap.size w) (.cells #[.slice pA pn pc, .slice lA ln lc, .int .i64 d, .map (some b)] 113)) (.cells (madeCells #[.int .i64 0] pn) 3))
  have HM := Lib.hid hm
  clear hm
  go_enter Tryz.func108, Tryz.ntmps108
  go_wp2
  generalize (w.alloc (.cells #[.slice pA pn pc, .slice lA ln lc, .int .i64 d, .map (some b)] 113)).alloc (.cells (madeCells #[.int .i64 0] pn) 3) = W0 at *
  have HSZ := Lib.hid (size_madeCells #[.int .i64 0] pn)
  generalize madeCells #[.int .i64 0] pn = mc at *
  clear hmk
  go_loopw [14] (fun v wr => ∃ (j : Nat) (cur : Array Value), j ≤ pn ∧ v = .int .i64 j ∧ Below w.heap.size w wr ∧ Has wr w.heap.size 113 #[.slice pA pn pc, .slice lA ln lc, .int .i64 d, .map (some b)] ∧ Has wr (w.heap.size + 1) 3 cur ∧ cur.size = pn
    ∧ ∀ i, i < j → cur[i]? = some (.int .i64 ((f k i).getD 0))) (fun v _ => pn - (intOf v).toNat)
  case atStart => exact ⟨0, mc, by omega, rfl, B.out, F.out, Z.out, HSZ.out, fun j hj => by omega⟩
  case round =>
    obtain ⟨j, cur, hj, rfl, hB, hF, hZ, hS, hC⟩ := hrel
    have HB := Lib.hid hB; have HF := Lib.hid hF; have HZ := Lib.hid hZ; have HS := Lib.hid hS; have HC := Lib.hid hC
    have hz := hZ.lt
    have qf := hF.cell
    have qz := hZ.cell
    have qq := hZ.frozen
    clear hB hF hZ hS hC
    by_cases hjn : j < pn
    · have HN := Lib.hid (cur_next (F := fun l : Nat => (f k l).getD 0) HS.out hjn HC.out)
      have hcj : cur[j]? = some (cur[j]'(by rw [HS.out]; exact hjn)) := Array.getElem?_eq_getElem _
      go_wp2_with (refine wpList_look rfl _ _ rfl (b := b) (f := f) k j rfl rfl (HM.out.keep HB.out) ?_)
      go_roundw
      case rel => exact ⟨j + 1, cur.setIfInBounds j (.int .i64 ((f k j).getD 0)), by omega, by go_num, setB HB.out (by simp) _, HF.out.far (by simp) _, by simpa using HZ.out.set j _, by simp [HS.out], HN.out⟩
      case measure => simp [intOf]; omega
    · have hjn' : j = pn := by omega
      subst hjn'
      have HFl := Lib.hid (cur_flat (F := fun l : Nat => (f k l).getD 0) HS.out HC.out)
      go_wp2
      exact bodyPost_ret (results_tmp rfl _ _ _) rfl ⟨_, rfl, Own.of_has (n := j) eI_ok HZ.out (by omega) (by simp) (by rw [HS.out]; exact (Nat.mul_one j).symm) HFl.out (by unfold maxLen; omega), HB.out⟩
set_option maxHeartbeats 2000000 in
theorem totals_c (s : Sv) (hs : Seas s.ps s.ls) (b : Nat) (w : World) (hi : s.In w) (hm : MapAt w b (clF s.ps s.ls)) :
    Calls Tryz.prog 81 #[s.set (denF s.ps s.ls) (.map (some b))] w (Gives eI w ((List.range s.pn).map (totF s.ps s.ls))) := by
  have HC := Lib.hid fun (w' : World) (hb : Below w.heap.size w w') (k : Nat) => (show Calls Tryz.prog 133 #[s.set (denF s.ps s.ls) (.map (some b)), .int .i64 k] w' (Gives eI w' (colL s.ps s.ls k)) from by
    have := column_c s (denF s.ps s.ls) b k (clF s.ps s.ls) (by have := hi.ls.1; have := hs.few; omega) w' (hm.keep hb)
    rw [← hi.ls.1, colL_eq] at this; exact this)
  have hpn : s.pn ≤ 6 := by rw [← hi.ps.1]; exact hs.six
  have HCo := Lib.hid fun k j => hs.col k j
  have HCl := Lib.hid fun k => (show (colL s.ps s.ls k).length ≤ 20 from by have := hs.few; simp [colL]; omega)
  have HTo := Lib.hid fun k => (show totF s.ps s.ls k = sumI (colL s.ps s.ls k) from rfl)
  obtain ⟨pA, lA, pn, pc, ln, lc, ps, ls⟩ := s
  simp only [Sv.set] at *
  clear hi hm hs
  generalize denF ps ls = d at *
  have hmk := makeI pn (by omega)
  have F := Lib.hid ((Has.new w 113 #[.slice pA pn pc, .slice lA ln lc, .int .i64 d, .map (some b)]).alloc (.cells (madeCells #[.int .i64 0] pn) 3))
  have Z := Lib.hid (Has.new' (w.alloc (.cells #[.slice pA pn pc, .slice lA ln lc, .int .i64 d, .map (some b)] 113)) 3 (madeCells #[.int .i64 0] pn) (g := w.heap.size + 1) (by simp))
  have B := Lib.hid (newB (newB (Below.refl w.heap.size w) (.cells #[.slice pA pn pc, .slice lA ln lc, .int .i64 d, .map (some b)] 113)) (.cells (madeCells #[.int .i64 0] pn) 3))
  go_enter Tryz.func81, Tryz.ntmps81
  go_wp2
  generalize (w.alloc (.cells #[.slice pA pn pc, .slice lA ln lc, .int .i64 d, .map (some b)] 113)).alloc (.cells (madeCells #[.int .i64 0] pn) 3) = W0 at *
  have HSZ := Lib.hid (size_madeCells #[.int .i64 0] pn)
  generalize madeCells #[.int .i64 0] pn = mc at *
  clear hmk
  go_loopw [12] (fun v wr => ∃ (j : Nat) (cur : Array Value), j ≤ pn ∧ v = .int .i64 j ∧ Below w.heap.size w wr ∧ Has wr w.heap.size 113 #[.slice pA pn pc, .slice lA ln lc, .int .i64 d, .map (some b)] ∧ Has wr (w.heap.size + 1) 3 cur ∧ cur.size = pn
    ∧ ∀ i, i < j → cur[i]? = some (.int .i64 (totF ps ls i))) (fun v _ => pn - (intOf v).toNat)
  case atStart => exact ⟨0, mc, by omega, rfl, B.out, F.out, Z.out, HSZ.out, fun j hj => by omega⟩
  case round =>
    obtain ⟨j, cur, hj, rfl, hB, hF, hZ, hS, hC⟩ := hrel
    have HB := Lib.hid hB; have HF := Lib.hid hF; have HZ := Lib.hid hZ; have HS := Lib.hid hS; have HCu := Lib.hid hC
    have hz := hZ.lt
    have qf := hF.cell
    clear hB hF hZ hS hC
    by_cases hjn : j < pn
    · have HN := Lib.hid (cur_next (F := totF ps ls) HS.out hjn HCu.out)
      have hcj : cur[j]? = some (cur[j]'(by rw [HS.out]; exact hjn)) := Array.getElem?_eq_getElem _
      have HTj := Lib.hid (HTo.out j)
      go_wp2_with (first
        | (refine wpList_load_row rfl 113 _ rfl w.heap.size rfl 113 _ (0, 0) _ HF.out Tryz.underlying113 rfl (by kernel_rfl) ?_)
        | (go_at_call 133; refine (HC.out _ HB.out j).mono ?_; rintro e w1 ⟨v1, rfl, ho, hb1⟩; obtain ⟨A1, c1, rfl, hsl1, _⟩ := Own.sl ho; have HSl1 := Lib.hid hsl1; have HB1 := Lib.hid hb1; clear ho hsl1 hb1)
        | (go_at_call 109; refine (sum_c A1 _ c1 (colL ps ls j) (by have := HCl.out j; omega) (fun k _ => HCo.out j k) _ HSl1.out).mono ?_; rintro e w2 ⟨rfl, hb2⟩; have HB2 := Lib.hid hb2; have HZ2 := Lib.hid ((HZ.out.after HB1.out).after hb2); have HF2 := Lib.hid ((HF.out.after HB1.out).after hb2); have qz := ((HZ.out.after HB1.out).after hb2).cell; have qq := ((HZ.out.after HB1.out).after hb2).frozen; have qs := ((HZ.out.after HB1.out).after hb2).lt; clear hb2))
      go_roundw
      case rel => exact ⟨j + 1, cur.setIfInBounds j (.int .i64 (totF ps ls j)), by omega, by go_num, setB (nextB (nextB HB.out HB1.out) HB2.out) (by simp) _, HF2.out.far (by simp) _, by rw [HTj.out]; simpa using HZ2.out.set j _, by simp [HS.out], HN.out⟩
      case measure => simp [intOf]; omega
    · have hjn' : j = pn := by omega
      subst hjn'
      have HFl := Lib.hid (cur_flat (F := totF ps ls) HS.out HCu.out)
      go_wp2
      exact bodyPost_ret (results_tmp rfl _ _ _) rfl ⟨_, rfl, Own.of_has (n := j) eI_ok HZ.out (by omega) (by simp) (by rw [HS.out]; exact (Nat.mul_one j).symm) HFl.out (by unfold maxLen; omega), HB.out⟩

set_option maxHeartbeats 2000000 in
theorem share_c (s : Sv) (hs : Seas s.ps s.ls) (b k : Nat) (w : World) (hi : s.In w) (hm : MapAt w b (clF s.ps s.ls)) :
    Calls Tryz.prog 136 #[s.set (denF s.ps s.ls) (.map (some b)), .int .i64 k] w fun e w' => e = .returned (.int .i64 (shareF s.ps s.ls k)) ∧ Below w.heap.size w w' := by
  have HC := Lib.hid fun (w' : World) (hb : Below w.heap.size w w') => (show Calls Tryz.prog 133 #[s.set (denF s.ps s.ls) (.map (some b)), .int .i64 k] w' (Gives eI w' (colL s.ps s.ls k)) from by
    have := column_c s (denF s.ps s.ls) b k (clF s.ps s.ls) (by have := hi.ls.1; have := hs.few; omega) w' (hm.keep hb)
    rw [← hi.ls.1, colL_eq] at this; exact this)
  have HCo := Lib.hid fun j => hs.col k j
  have HCl := Lib.hid (show (colL s.ps s.ls k).length ≤ 20 from by have := hs.few; simp [colL]; omega)
  have HSh := Lib.hid (show shareF s.ps s.ls k = Int.tdiv (sumI (colL s.ps s.ls k)) (denF s.ps s.ls) from (Int.tdiv_eq_ediv_of_nonneg (hs.tot k).1).symm)
  have HSb := Lib.hid (hs.share k)
  have HDn := Lib.hid hs.den
  obtain ⟨pA, lA, pn, pc, ln, lc, ps, ls⟩ := s
  simp only [Sv.set] at *
  clear hi hm hs
  generalize denF ps ls = d at *
  have F := Lib.hid (Has.new w 113 #[.slice pA pn pc, .slice lA ln lc, .int .i64 d, .map (some b)])
  have B := Lib.hid (newB (Below.refl w.heap.size w) (.cells #[.slice pA pn pc, .slice lA ln lc, .int .i64 d, .map (some b)] 113))
  go_enter Tryz.func136, Tryz.ntmps136
  go_wp2
  generalize w.alloc (.cells #[.slice pA pn pc, .slice lA ln lc, .int .i64 d, .map (some b)] 113) = W0 at *
  apply wp_loose 8 [.v _, .v _, .r (fun v w' => Own eI w.heap.size v (colL ps ls k) w'), .v _, .v _, .v _, .v _, .v _] (by kernel_rfl) (by kernel_rfl) (by kernel_rfl) (by decide) rfl
  intro K hK
  refine OblS.row rfl 113 _ rfl w.heap.size rfl 113 _ _ F.out Tryz.underlying113 rfl (by kernel_rfl) ?_
  apply OblS.val rfl
  · intro w' hb _; go_simp; rfl
  apply OblS.callR 133
  · intro v w1 w2 h hb; exact h.keep hb
  · rfl
  · intro w' hb _
    apply Exists.intro; apply And.intro; (go_simp; rfl); refine (HC.out w' (nextB B.out hb)).mono ?_
    rintro e w2 ⟨v, rfl, ho, hb2⟩
    exact ⟨v, rfl, ho.lower (nextB B.out hb).size, hb2⟩
  intro v2
  apply OblS.call 109 rfl
  · intro w' hb hH
    have ho := hH _ (List.mem_cons_self ..) (by kernel_rfl)
    obtain ⟨A, c, rfl, hsl, _⟩ := Own.sl ho
    apply Exists.intro; apply And.intro; (go_simp; rfl); exact sum_c A _ c (colL ps ls k) (by have := HCl.out; omega) (fun j _ => HCo.out j) w' hsl
  apply OblS.val rfl
  · intro w' hb _; go_simp; rfl
  apply OblS.val rfl
  · intro w' hb _; have := (F.out.after hb).cell; go_simp; rfl
  apply OblS.val (v := .int .i64 (shareF ps ls k)) rfl
  · intro w' hb _
    have hd0 : ¬ d = 0 := by have := HDn.out; omega
    have h1 := HSh.out.symm
    obtain ⟨s0, s1⟩ := HSb.out
    go_simp
    rw [IntKind.wrap_i64]; omega
  apply OblS.val rfl
  · intro w' hb _; go_simp; rfl
  apply OblS.nil
  apply hK
  intro w2 hb hH
  clear hH hK K
  simp only [Act.put, List.setIfInBounds_toArray, List.set_cons_zero, List.set_cons_succ, List.drop_succ_cons, List.drop_zero]
  have HB2 := Lib.hid (nextB B.out hb)
  clear hb
  go_wp2
  exact bodyPost_ret (results_tmp rfl _ _ _) rfl ⟨rfl, HB2.out⟩
end Go.Proofs
namespace Go.Proofs
open Go.RowKit
attribute [local go_sem ↓] Go.wp_at_zero Go.wp_at_succ

def En.v (x : En) : Value := .agg #[.int .i64 x.s, .int .i64 x.o, .int .i64 x.p, .int .i64 x.w, .int .i64 x.k]
def big : Int := 1000000000000000000
theorem staying_c (sh d : Int) (hs : 0 ≤ sh ∧ sh ≤ 1000000000000000000) (hd : 0 ≤ d ∧ d ≤ 1000000000000000000) (w : World) : Calls Tryz.prog 228 #[.agg #[], .int .i64 sh, .int .i64 d] w fun e w' => e = .returned (endF 1 sh d).v ∧ Below w.heap.size w w' := by
  obtain ⟨s0, s1⟩ := hs; obtain ⟨d0, d1⟩ := hd
  have Z := Lib.hid (Has.new' (w.alloc (.cells #[] 181)) 46 #[.int .i64 0, .int .i64 0, .int .i64 0, .int .i64 0, .int .i64 0] (g := w.heap.size + 1) (by simp))
  have B := Lib.hid (newB (newB (Below.refl w.heap.size w) (.cells #[] 181)) (.cells #[.int .i64 0, .int .i64 0, .int .i64 0, .int .i64 0, .int .i64 0] 46))
  go_enter Tryz.func228, Tryz.ntmps228
  go_wp2_with (refine wpList_store_all rfl 46 _ _ rfl (w.heap.size + 1) rfl _ rfl 46 _ Z.out (by kernel_rfl) rfl (by simp [Value.oneCell']) ?_)
  all_goals
    refine bodyPost_ret (results_cell_row rfl _ _ (w.heap.size + 1) 46 _ (0, 0) _ rfl (Z.out.setRow _) Tryz.underlying46 rfl (by kernel_rfl)) rfl ⟨?_, rowB B.out (by omega) _⟩
    simp only [endF, En.v, if_true]
    first
      | (rw [show min sh d = d by omega]; try first | rfl | (simp; done))
      | (rw [show min sh d = sh by omega]; try first | rfl | (simp; done))
theorem deserting_c (sh d : Int) (w : World) : Calls Tryz.prog 229 #[.agg #[], .int .i64 sh, .int .i64 d] w fun e w' => e = .returned (endF 2 sh d).v ∧ Below w.heap.size w w' := by
  have Z := Lib.hid (Has.new' (w.alloc (.cells #[] 182)) 46 #[.int .i64 0, .int .i64 0, .int .i64 0, .int .i64 0, .int .i64 0] (g := w.heap.size + 1) (by simp))
  have B := Lib.hid (newB (newB (Below.refl w.heap.size w) (.cells #[] 182)) (.cells #[.int .i64 0, .int .i64 0, .int .i64 0, .int .i64 0, .int .i64 0] 46))
  go_enter Tryz.func229, Tryz.ntmps229
  go_wp2_with (refine wpList_store_all rfl 46 _ _ rfl (w.heap.size + 1) rfl _ rfl 46 _ Z.out (by kernel_rfl) rfl (by simp [Value.oneCell']) ?_)
  refine bodyPost_ret (results_cell_row rfl _ _ (w.heap.size + 1) 46 _ (0, 0) _ rfl (Z.out.setRow _) Tryz.underlying46 rfl (by kernel_rfl)) rfl ⟨rfl, rowB B.out (by omega) _⟩
theorem dying_c (sh d : Int) (hs : 0 ≤ sh ∧ sh ≤ 1000000000000000000) (hd : 0 ≤ d ∧ d ≤ 1000000000000000000) (w : World) : Calls Tryz.prog 230 #[.agg #[], .int .i64 sh, .int .i64 d] w fun e w' => e = .returned (endF 3 sh d).v ∧ Below w.heap.size w w' := by
  obtain ⟨s0, s1⟩ := hs; obtain ⟨d0, d1⟩ := hd
  have Z := Lib.hid (Has.new' (w.alloc (.cells #[] 183)) 46 #[.int .i64 0, .int .i64 0, .int .i64 0, .int .i64 0, .int .i64 0] (g := w.heap.size + 1) (by simp))
  have B := Lib.hid (newB (newB (Below.refl w.heap.size w) (.cells #[] 183)) (.cells #[.int .i64 0, .int .i64 0, .int .i64 0, .int .i64 0, .int .i64 0] 46))
  have q : Int.tdiv sh 2 = sh / 2 := Int.tdiv_eq_ediv_of_nonneg s0
  go_enter Tryz.func230, Tryz.ntmps230
  go_wp2_with (refine wpList_store_all rfl 46 _ _ rfl (w.heap.size + 1) rfl _ rfl 46 _ Z.out (by kernel_rfl) rfl (by simp [Value.oneCell']) ?_)
  all_goals
    refine bodyPost_ret (results_cell_row rfl _ _ (w.heap.size + 1) 46 _ (0, 0) _ rfl (Z.out.setRow _) Tryz.underlying46 rfl (by kernel_rfl)) rfl ⟨?_, rowB B.out (by omega) _⟩
    simp only [endF, En.v, show ¬ (3 : Int) = 1 by omega, show ¬ (3 : Int) = 2 by omega, if_false]
    first
      | (rw [show min d (sh / 2) = d by omega]; try first | rfl | (simp; done))
      | (rw [show min d (sh / 2) = sh / 2 by omega]; try first | rfl | (simp; done))

set_option maxHeartbeats 2000000 in
theorem arePersons_c (A : Option Addr) (n c : Nat) (ps : List Pe) (hn : n ≤ 1000000) (w : World) (hA : SlOf Pe.cs 3 w A n ps) :
    Calls Tryz.prog 78 #[.slice A n c] w fun e w' => e = .returned (.bool (persB ps)) ∧ Below w.heap.size w w' := by
  have HA := Lib.hid hA; have HN := Lib.hid hA.1
  cases h1 : inB (n : Int) 2 6
  · have H1 := Lib.hid h1
    have HE := Lib.hid (show persB ps = false by simp [persB, hA.1, h1])
    clear hA h1
    go_enter Tryz.func78, Tryz.ntmps78
    go_wp2_with (go_at_call 102; refine (within_c _ _ _ _).mono ?_; rintro e w1 ⟨rfl, rfl⟩; rw [H1.out])
    exact bodyPost_ret (results_tmp rfl _ _ _) rfl ⟨by rw [HE.out]; rfl, Below.refl _ _⟩
  · have H1 := Lib.hid h1
    have HE := Lib.hid (show persB ps = (ps.all peB && decide (sumI (ps.map Pe.p) ≤ 24) && houseB ps) by simp [persB, hA.1, h1])
    simp only [inB, decide_eq_true_eq] at h1
    have h6 : n ≤ 6 := by omega
    have h2 : 2 ≤ n := by omega
    clear hA h1
    go_enter Tryz.func78, Tryz.ntmps78
    go_wp2_with (go_at_call 102; refine (within_c _ _ _ _).mono ?_; rintro e w1 ⟨rfl, rfl⟩; rw [H1.out])
    go_loopw [12] (fun v wr => ∃ k : Nat, k ≤ n ∧ v = .int .i64 k ∧ Below w.heap.size w wr ∧ ∀ (j : Nat) x, j < k → ps[j]? = some x → peB x = true) (fun v _ => n - (intOf v).toNat)
    case atStart => exact ⟨0, by omega, rfl, Below.refl _ _, fun j x hj => absurd hj (by omega)⟩
    case round =>
      obtain ⟨k, hk, rfl, hB, hAl⟩ := hrel
      have HB := Lib.hid hB; have HAl := Lib.hid hAl
      have hz := hB.size
      clear hB hAl
      by_cases hkn : k < n
      · have hkl : k < ps.length := by rw [HN.out]; exact hkn
        obtain ⟨b, o, he⟩ := HA.out.addr (by omega)
        have hx := List.getElem?_eq_getElem hkl
        obtain ⟨x, hxx⟩ : ∃ x, x = ps[k] := ⟨_, rfl⟩
        rw [← hxx] at hx
        subst he
        have HX := Lib.hid hx
        obtain ⟨x0, x1, x2⟩ := x
        have hR := Lib.hid (show wr.rangeAt b (o + k * 3) [.int .i64 x0, .int .i64 x1, .int .i64 x2] from (HA.out.keep HB.out).range Pe.cs_len hx)
        clear hx hxx
        cases ht : peB ⟨x0, x1, x2⟩
        · have T := Lib.hid ht
          clear ht
          go_wp2_with (first
            | (refine wpList_load_mid rfl 49 _ rfl b (o + k * 3) rfl _ _ hR.out Tryz.underlying49 rfl (by kernel_rfl) ?_)
            | (go_at_call 125; refine (isPerson_c _ _ _ _).mono ?_; rintro e w1 ⟨rfl, hb1⟩; rw [T.out]; have HB1 := Lib.hid hb1; clear hb1))
          exact bodyPost_ret (results_tmp rfl _ _ _) rfl ⟨by rw [HE.out, all_not HX.out T.out]; rfl, nextB (newB HB.out _) HB1.out⟩
        · have T := Lib.hid ht
          clear ht
          go_wp2_with (first
            | (refine wpList_load_mid rfl 49 _ rfl b (o + k * 3) rfl _ _ hR.out Tryz.underlying49 rfl (by kernel_rfl) ?_)
            | (go_at_call 125; refine (isPerson_c _ _ _ _).mono ?_; rintro e w1 ⟨rfl, hb1⟩; rw [T.out]; have HB1 := Lib.hid hb1; clear hb1))
          go_roundw
          case rel => exact ⟨k + 1, by omega, by go_num, nextB (newB HB.out _) HB1.out, all_next HAl.out HX.out T.out⟩
          case measure => simp [intOf]; omega
      · have hall := all_take HN.out HAl.out (by omega)
        have HPe := Lib.hid fun x hx => (show 0 ≤ Pe.p x ∧ Pe.p x ≤ 1000000 from by
          have := List.all_eq_true.1 hall x hx
          simp only [peB, Bool.and_eq_true, inB, decide_eq_true_eq] at this; omega)
        have HE2 := Lib.hid (show persB ps = (decide (sumI (ps.map Pe.p) ≤ 24) && houseB ps) by rw [HE.out, hall]; rfl)
        obtain ⟨b, o, he⟩ := HA.out.addr (by omega)
        have h0l : 0 < ps.length := by have := HN.out; omega
        have hx := List.getElem?_eq_getElem h0l
        obtain ⟨x, hxx⟩ : ∃ x, x = ps[0] := ⟨_, rfl⟩
        rw [← hxx] at hx
        have HHo := Lib.hid (show houseB ps = (x.d == 0 && x.f == 1) by
          cases ps with
          | nil => simp at h0l
          | cons y r => simp at hxx; subst hxx; rfl)
        subst he
        obtain ⟨x0, x1, x2⟩ := x
        have hR := Lib.hid (show wr.rangeAt b o [.int .i64 x0, .int .i64 x1, .int .i64 x2] from by have h := (HA.out.keep HB.out).range Pe.cs_len hx; rw [Nat.zero_mul, Nat.add_zero] at h; exact h)
        have HP := Lib.hid fun (w' : World) (hb : Below w.heap.size w w') => partsOf_c (some ⟨b, o, none⟩) n c ps (by omega) HPe.out w' (HA.out.keep hb)
        have X5 := Lib.hid (Has.new wr 49 #[.int .i64 x0, .int .i64 x1, .int .i64 x2])
        simp only at HHo
        clear hx hxx hall
        by_cases hs : sumI (ps.map Pe.p) ≤ 24
        · by_cases hd : x1 = 0
          · have HE3 := Lib.hid (show persB ps = (x2 == 1) by rw [HE2.out, HHo.out]; simp [hs, hd])
            subst hd
            go_wp2_with (first
              | (refine wpList_load_mid rfl 49 _ rfl b o rfl _ _ hR.out Tryz.underlying49 rfl (by kernel_rfl) ?_)
              | (go_at_call 126; refine (HP.out _ (newB HB.out _)).mono ?_; rintro e w1 ⟨rfl, hb1⟩; have HB1 := Lib.hid hb1; have c5 := (X5.out.after hb1).cell; clear hb1))
            exact bodyPost_ret (results_tmp rfl _ _ _) rfl ⟨by rw [HE3.out]; rfl, nextB (newB HB.out _) HB1.out⟩
          · have hd' : (x1 == 0) = false := by simpa using hd
            have HE3 := Lib.hid (show persB ps = false by rw [HE2.out, HHo.out]; simp [hd])
            go_wp2_with (first
              | (refine wpList_load_mid rfl 49 _ rfl b o rfl _ _ hR.out Tryz.underlying49 rfl (by kernel_rfl) ?_)
              | (go_at_call 126; refine (HP.out _ (newB HB.out _)).mono ?_; rintro e w1 ⟨rfl, hb1⟩; have HB1 := Lib.hid hb1; have c5 := (X5.out.after hb1).cell; clear hb1))
            exact bodyPost_ret (results_tmp rfl _ _ _) rfl ⟨by rw [HE3.out]; rfl, nextB (newB HB.out _) HB1.out⟩
        · have HE3 := Lib.hid (show persB ps = false by rw [HE2.out]; simp [hs])
          have hs' : decide (sumI (ps.map Pe.p) ≤ 24) = false := by simpa using hs
          go_wp2_with (first
            | (refine wpList_load_mid rfl 49 _ rfl b o rfl _ _ hR.out Tryz.underlying49 rfl (by kernel_rfl) ?_)
            | (go_at_call 126; refine (HP.out _ (newB HB.out _)).mono ?_; rintro e w1 ⟨rfl, hb1⟩; have HB1 := Lib.hid hb1; have c5 := (X5.out.after hb1).cell; clear hb1))
          exact bodyPost_ret (results_tmp rfl _ _ _) rfl ⟨by rw [HE3.out]; rfl, nextB (newB HB.out _) HB1.out⟩

set_option maxHeartbeats 2000000 in
theorem check_c (s : Sv) (hpn : s.pn ≤ 1000000) (hln : s.ln ≤ 1000000) (w : World) (hi : s.In w) :
    Calls Tryz.prog 25 #[s.val] w fun e w' => e = .returned (.int .i64 (errI (seasonB s.ps s.ls))) ∧ Below w.heap.size w w' := by
  obtain ⟨pA, lA, pn, pc, ln, lc, ps, ls⟩ := s
  obtain ⟨hp, hl⟩ := hi
  simp only [Sv.val] at *
  have HP := Lib.hid hp; have HPN := Lib.hid hp.1; have HL := Lib.hid hl; have HLN := Lib.hid hl.1
  have HAP := Lib.hid fun (w' : World) (hb : Below w.heap.size w w') => arePersons_c pA pn pc ps hpn w' (hp.keep hb)
  have F0 := Lib.hid (Has.new w 25 #[.slice pA pn pc, .slice lA ln lc])
  have B0 := Lib.hid (newB (Below.refl w.heap.size w) (.cells #[.slice pA pn pc, .slice lA ln lc] 25))
  cases h1 : persB ps
  · have H1 := Lib.hid h1
    have HE := Lib.hid (show seasonB ps ls = false by simp [seasonB, h1])
    clear hp hl h1
    go_enter Tryz.func25, Tryz.ntmps25
    go_wp2_with (go_at_call 78; refine (HAP.out _ B0.out).mono ?_; rintro e w1 ⟨rfl, hb1⟩; rw [H1.out]; have HB1 := Lib.hid hb1; clear hb1)
    exact bodyPost_ret (results_tmp rfl _ _ _) rfl ⟨by rw [HE.out]; rfl, nextB B0.out HB1.out⟩
  · have H1 := Lib.hid h1
    have hp20 : pn ≤ 20 := by
      have := h1
      simp only [persB, Bool.and_eq_true, inB, decide_eq_true_eq] at this
      rw [hp.1] at this; omega
    by_cases h2 : ln ≤ 6
    · have HE := Lib.hid (show seasonB ps ls = ls.all (laB pn) by simp [seasonB, h1, hl.1, h2, hp.1])
      have d2 : decide ((ln : Int) > 6) = false := by simp; omega
      clear hp hl h1
      go_enter Tryz.func25, Tryz.ntmps25
      go_wp2_with (go_at_call 78; refine (HAP.out _ B0.out).mono ?_; rintro e w1 ⟨rfl, hb1⟩; rw [H1.out]; have HB1 := Lib.hid (nextB B0.out hb1); have HF1 := Lib.hid (F0.out.after hb1); have c1 := (F0.out.after hb1).cell; clear hb1)
      go_loopw [18] (fun v wr => ∃ k : Nat, k ≤ ln ∧ v = .int .i64 k ∧ Below w.heap.size w wr ∧ Has wr w.heap.size 25 #[.slice pA pn pc, .slice lA ln lc] ∧ ∀ (j : Nat) x, j < k → ls[j]? = some x → laB pn x = true) (fun v _ => ln - (intOf v).toNat)
      case atStart => exact ⟨0, by omega, rfl, HB1.out, HF1.out, fun j x hj => absurd hj (by omega)⟩
      case round =>
        obtain ⟨k, hk, rfl, hB, hF, hAl⟩ := hrel
        have HB := Lib.hid hB; have HF := Lib.hid hF; have HAl := Lib.hid hAl
        have hz := hB.size
        have cf := hF.cell
        have zf := hF.lt
        clear hB hAl hF c1
        by_cases hkn : k < ln
        · have hkl : k < ls.length := by rw [HLN.out]; exact hkn
          obtain ⟨b, o, he⟩ := HL.out.addr (by omega)
          have hx := List.getElem?_eq_getElem hkl
          obtain ⟨x, hxx⟩ : ∃ x, x = ls[k] := ⟨_, rfl⟩
          rw [← hxx] at hx
          subst he
          have HX := Lib.hid hx
          obtain ⟨x0, x1, x2⟩ := x
          have hR := Lib.hid (show wr.rangeAt b (o + k * 3) [.int .i64 x0, .int .i64 x1, .int .i64 x2] from (HL.out.keep HB.out).range La.cs_len hx)
          clear hx hxx
          cases ht : laB pn ⟨x0, x1, x2⟩
          · have T := Lib.hid ht
            clear ht
            go_wp2_with (first
              | (refine wpList_load_mid rfl 44 _ rfl b (o + k * 3) rfl _ _ hR.out Tryz.underlying44 rfl (by kernel_rfl) ?_)
              | (go_at_call 79; refine (isLanding_c _ _ _ pn hp20 _).mono ?_; rintro e w1 ⟨rfl, hb1⟩; rw [T.out]; have HB2 := Lib.hid hb1; clear hb1))
            exact bodyPost_ret (results_tmp rfl _ _ _) rfl ⟨by rw [HE.out, all_not HX.out T.out]; rfl, nextB (newB HB.out _) HB2.out⟩
          · have T := Lib.hid ht
            clear ht
            go_wp2_with (first
              | (refine wpList_load_mid rfl 44 _ rfl b (o + k * 3) rfl _ _ hR.out Tryz.underlying44 rfl (by kernel_rfl) ?_)
              | (go_at_call 79; refine (isLanding_c _ _ _ pn hp20 _).mono ?_; rintro e w1 ⟨rfl, hb1⟩; rw [T.out]; have HB2 := Lib.hid hb1; clear hb1))
            go_roundw
            case rel => exact ⟨k + 1, by omega, by go_num, nextB (newB HB.out _) HB2.out, (HF.out.alloc _).after HB2.out, all_next HAl.out HX.out T.out⟩
            case measure => simp [intOf]; omega
        · have hall := Lib.hid (all_take HLN.out HAl.out (by omega))
          go_wp2
          exact bodyPost_ret (results_tmp rfl _ _ _) rfl ⟨by rw [HE.out, hall.out]; rfl, HB.out⟩
    · have HE := Lib.hid (show seasonB ps ls = false by simp [seasonB, hl.1, h2])
      have d2 : decide ((ln : Int) > 6) = true := by simp; omega
      clear hp hl h1
      go_enter Tryz.func25, Tryz.ntmps25
      go_wp2_with (go_at_call 78; refine (HAP.out _ B0.out).mono ?_; rintro e w1 ⟨rfl, hb1⟩; rw [H1.out]; have HB1 := Lib.hid (nextB B0.out hb1); have HF1 := Lib.hid (F0.out.after hb1); have c1 := (F0.out.after hb1).cell; clear hb1)
      exact bodyPost_ret (results_tmp rfl _ _ _) rfl ⟨by rw [HE.out]; rfl, HB1.out⟩
end Go.Proofs
namespace Go.Proofs
open Go.RowKit
attribute [local go_sem ↓] Go.wp_at_zero Go.wp_at_succ

theorem sumI_snoc (xs : List Int) (x : Int) : sumI (xs ++ [x]) = sumI xs + x := by rw [sumI_append]; simp [sumI]
theorem Seas.nets {ps : List Pe} {ls : List La} (h : Seas ps ls) (j : Nat) : 0 ≤ sumI ((ls.map netI).take j) ∧ sumI ((ls.map netI).take j) ≤ 600000 := by
  have hf := h.few
  have hb : ∀ x ∈ (ls.map netI).take j, 0 ≤ x ∧ x ≤ 100000 := fun x hx => by
    obtain ⟨l, hl, rfl⟩ := List.mem_map.1 (List.mem_of_mem_take hx)
    have := h.la l hl
    exact netI_bd ⟨this.1, this.2.1, this.2.2.1, this.2.2.2.1⟩
  have := sumI_bd ((ls.map netI).take j) 100000 (fun x hx => by have := hb x hx; omega)
  have hl : ((ls.map netI).take j).length ≤ 6 := by simp; omega
  exact ⟨sumI_nonneg _ (fun x hx => (hb x hx).1), by omega⟩
theorem Seas.defs {ps : List Pe} {ls : List La} (h : Seas ps ls) (j : Nat) : 0 ≤ sumI ((ls.map defI).take j) ∧ sumI ((ls.map defI).take j) ≤ 600000 := by
  have hf := h.few
  have hb : ∀ x ∈ (ls.map defI).take j, 0 ≤ x ∧ x ≤ 100000 := fun x hx => by
    obtain ⟨l, hl, rfl⟩ := List.mem_map.1 (List.mem_of_mem_take hx)
    have := h.la l hl
    unfold defI; omega
  have := sumI_bd ((ls.map defI).take j) 100000 (fun x hx => by have := hb x hx; omega)
  have hl : ((ls.map defI).take j).length ≤ 6 := by simp; omega
  exact ⟨sumI_nonneg _ (fun x hx => (hb x hx).1), by omega⟩
theorem Seas.shsum {ps : List Pe} {ls : List La} (h : Seas ps ls) (j : Nat) (hj : j ≤ 6) : 0 ≤ sumI ((List.range j).map (shareF ps ls)) ∧ sumI ((List.range j).map (shareF ps ls)) ≤ 6 * 114661785600000 := by
  have hb : ∀ x ∈ (List.range j).map (shareF ps ls), 0 ≤ x ∧ x ≤ 114661785600000 := fun x hx => by
    obtain ⟨k, _, rfl⟩ := List.mem_map.1 hx
    have := h.share k; omega
  have := sumI_bd ((List.range j).map (shareF ps ls)) 114661785600000 (fun x hx => by have := hb x hx; omega)
  have hl : ((List.range j).map (shareF ps ls)).length ≤ 6 := by simp; omega
  exact ⟨sumI_nonneg _ (fun x hx => (hb x hx).1), by omega⟩

set_option maxHeartbeats 2000000 in
theorem box_c (s : Sv) (hs : Seas s.ps s.ls) (b : Nat) (w : World) (hi : s.In w) (hm : MapAt w b (clF s.ps s.ls)) :
    Calls Tryz.prog 89 #[s.set (denF s.ps s.ls) (.map (some b))] w fun e w' => e = .returned (.int .i64 (boxF s.ps s.ls)) ∧ Below w.heap.size w w' := by
  have hpn : s.pn ≤ 6 := by rw [← hi.ps.1]; exact hs.six
  have hln : s.ln ≤ 6 := by rw [← hi.ls.1]; exact hs.few
  have HSh := Lib.hid fun (w' : World) (hb : Below w.heap.size w w') (k : Nat) => share_c s hs b k w' (hi.keep hb) (hm.keep hb)
  have HSe := Lib.hid hs
  obtain ⟨pA, lA, pn, pc, ln, lc, ps, ls⟩ := s
  obtain ⟨hp, hl⟩ := hi
  simp only [Sv.set] at *
  have HPN := Lib.hid hp.1; have HL := Lib.hid hl; have HLN := Lib.hid hl.1
  clear hp hl hm hs
  obtain ⟨d, hd⟩ : ∃ d, d = denF ps ls := ⟨_, rfl⟩
  rw [← hd] at HSh
  rw [← hd]
  clear hd
  have F := Lib.hid (Has.new w 113 #[.slice pA pn pc, .slice lA ln lc, .int .i64 d, .map (some b)])
  have B := Lib.hid (newB (Below.refl w.heap.size w) (.cells #[.slice pA pn pc, .slice lA ln lc, .int .i64 d, .map (some b)] 113))
  go_enter Tryz.func89, Tryz.ntmps89
  go_wp2
  go_loopw [3, 11] (fun t v wr => ∃ j : Nat, j ≤ ln ∧ v = .int .i64 j ∧ t = .int .i64 (sumI ((ls.map netI).take j)) ∧ Below w.heap.size w wr ∧ Has wr w.heap.size 113 #[.slice pA pn pc, .slice lA ln lc, .int .i64 d, .map (some b)]) (fun _ v _ => ln - (intOf v).toNat)
  case atStart => exact ⟨0, by omega, rfl, by simp [sumI], B.out, F.out⟩
  case round =>
    obtain ⟨j, hj, rfl, rfl, hB, hF⟩ := hrel
    have HB := Lib.hid hB; have HF := Lib.hid hF
    have cf := hF.cell; have zf := hF.lt
    clear hB hF
    by_cases hjn : j < ln
    · have hjl : j < ls.length := by rw [HLN.out]; exact hjn
      have hx := List.getElem?_eq_getElem hjl
      have hla := HSe.out.la _ (List.getElem_mem hjl)
      have HT := Lib.hid (show sumI ((ls.map netI).take (j + 1)) = sumI ((ls.map netI).take j) + netI ls[j] by rw [sumI_take _ _ (by simpa using hjl)]; simp)
      obtain ⟨bb, o, he⟩ := HL.out.addr (by omega)
      obtain ⟨y, hyy⟩ : ∃ y, y = ls[j] := ⟨_, rfl⟩
      rw [← hyy] at hx hla HT
      subst he
      obtain ⟨y0, y1, y2⟩ := y
      have hR := Lib.hid (show wr.rangeAt bb (o + j * 3) [.int .i64 y0, .int .i64 y1, .int .i64 y2] from (HL.out.keep HB.out).range La.cs_len hx)
      obtain ⟨n0, n1⟩ := HSe.out.nets j
      have hn := netI_bd (l := ⟨y0, y1, y2⟩) ⟨hla.1, hla.2.1, hla.2.2.1, hla.2.2.2.1⟩
      obtain ⟨m0, m1⟩ := hn
      have X5 := Lib.hid (Has.new wr 44 #[.int .i64 y0, .int .i64 y1, .int .i64 y2])
      have HLA := Lib.hid hla
      clear hx hyy hla
      go_wp2_with (first
        | (refine wpList_load_mid rfl 44 _ rfl bb (o + j * 3) rfl _ _ hR.out Tryz.underlying44 rfl (by kernel_rfl) ?_)
        | (go_at_call 131; refine (net_c y0 y1 y2 (by have := HLA.out; omega) (by have := HLA.out; omega) _).mono ?_; rintro e w1 ⟨rfl, hb1⟩; have HB1 := Lib.hid hb1; clear hb1))
      go_roundw
      case rel => exact ⟨j + 1, by omega, by go_num, by rw [HT.out], nextB (newB HB.out _) HB1.out, (HF.out.alloc _).after HB1.out⟩
      case measure => simp [intOf]; omega
    · have hjn' : j = ln := by omega
      subst hjn'
      have HE := Lib.hid (show (ls.map netI).take j = ls.map netI from List.take_of_length_le (by simp; have := HLN.out; omega))
      obtain ⟨n0, n1⟩ := HSe.out.nets j
      obtain ⟨N, hN⟩ : ∃ N, N = sumI ((ls.map netI).take j) := ⟨_, rfl⟩
      rw [← hN] at n0 n1
      rw [← hN]
      have HN := Lib.hid hN
      clear hN
      obtain ⟨wo, rfl⟩ : ∃ wo : World, wo = wr := ⟨_, rfl⟩
      go_wp2
      go_loopw [3, 24] (fun t v wr => ∃ i : Nat, i ≤ pn ∧ v = .int .i64 i ∧ t = .int .i64 (N - sumI ((List.range i).map (shareF ps ls))) ∧ Below w.heap.size w wr ∧ Has wr w.heap.size 113 #[.slice pA pn pc, .slice lA j lc, .int .i64 d, .map (some b)]) (fun _ v _ => pn - (intOf v).toNat)
      case atStart => exact ⟨0, by omega, rfl, by simp [sumI], HB.out, HF.out⟩
      case round =>
        obtain ⟨i, hi, rfl, rfl, hB, hF⟩ := hrel
        clear HB HF
        have HB := Lib.hid hB; have HF := Lib.hid hF
        clear hB hF cf zf
        by_cases hin : i < pn
        · have HT := Lib.hid (show sumI ((List.range (i + 1)).map (shareF ps ls)) = sumI ((List.range i).map (shareF ps ls)) + shareF ps ls i by rw [List.range_succ, List.map_append]; exact sumI_snoc _ _)
          obtain ⟨s0, s1⟩ := HSe.out.shsum i (by omega)
          obtain ⟨t0, t1⟩ := HSe.out.share i
          go_wp2_with (first
            | (refine wpList_load_row rfl 113 _ rfl w.heap.size rfl 113 _ (0, 0) _ HF.out Tryz.underlying113 rfl (by kernel_rfl) ?_)
            | (go_at_call 136; refine (HSh.out _ HB.out i).mono ?_; rintro e w1 ⟨rfl, hb1⟩; have HB1 := Lib.hid hb1; clear hb1))
          go_roundw
          case rel => exact ⟨i + 1, by omega, by go_num, by rw [HT.out]; congr 1; omega, nextB HB.out HB1.out, HF.out.after HB1.out⟩
          case measure => simp [intOf]; omega
        · have hin' : i = ps.length := by have := HPN.out; omega
          go_wp2
          exact bodyPost_ret (results_tmp rfl _ _ _) rfl ⟨by rw [show boxF ps ls = N - sumI ((List.range i).map (shareF ps ls)) by unfold boxF; rw [HN.out, HE.out, hin']]; rfl, HB.out⟩

theorem over_size (cur : Array Value) (i : Nat) (cs : Array Value) (h : i + cs.size ≤ cur.size) : (over cur i cs).size = cur.size := by
  unfold over; simp; omega
theorem over_take (cur : Array Value) (i : Nat) (cs : Array Value) (h : i ≤ cur.size) : (over cur i cs).toList.take (i + cs.size) = cur.toList.take i ++ cs.toList := by
  unfold over
  simp only []
  rw [List.take_append_of_le_length (by simp; omega), List.take_of_length_le (by simp; omega)]
theorem over_get (cur : Array Value) (i : Nat) (cs : Array Value) (h : i ≤ cur.size) (j : Nat) (hj : j < cs.size) : (over cur i cs)[i + j]? = cs[j]? := by
  have h1 := over_take cur i cs h
  have h2 : ((over cur i cs).toList.take (i + cs.size))[i + j]? = (over cur i cs).toList[i + j]? := by rw [List.getElem?_take, if_pos (by omega)]
  rw [h1] at h2
  rw [← Array.getElem?_toList, ← h2, List.getElem?_append_right (by simp; omega)]
  simp [Nat.min_eq_left h]
end Go.Proofs
namespace Go.Proofs
open Go.RowKit
attribute [local go_sem ↓] Go.wp_at_zero Go.wp_at_succ

theorem makeE (n : Nat) (hn : n ≤ 1000000) (w : World) : (Instr.makeSlice 36 (.int .i64 (n : Int)) (.int .i64 (n : Int))).run Tryz.prog w = .ok (.slice (some ⟨w.heap.size, 0, none⟩) n n) (w.alloc (.cells (madeCells #[.int .i64 0, .int .i64 0, .int .i64 0, .int .i64 0, .int .i64 0] (n * 5)) 46)) := El.makes eE_ok n hn w
theorem ends_get {ps : List Pe} {ls : List La} {k : Nat} {x : Pe} (hx : ps[k]? = some x) : (endsFrom ps ls)[k]? = some (endF x.f (shareF ps ls k) x.d) := by
  have hk := (List.getElem?_eq_some_iff.1 hx).1
  unfold endsFrom
  rw [List.getElem?_map, List.getElem?_range hk]
  simp [List.getD_eq_getElem?_getD, hx]
theorem ends_len (ps : List Pe) (ls : List La) : (endsFrom ps ls).length = ps.length := by simp [endsFrom]
theorem ends_take {ps : List Pe} {ls : List La} {k : Nat} {x : Pe} (hx : ps[k]? = some x) : (endsFrom ps ls).take (k + 1) = (endsFrom ps ls).take k ++ [endF x.f (shareF ps ls k) x.d] := by
  have hk := (List.getElem?_eq_some_iff.1 hx).1
  have hl : k < (endsFrom ps ls).length := by rw [ends_len]; exact hk
  rw [← List.take_append_getElem hl]
  congr 2
  have := ends_get (ls := ls) hx
  rw [List.getElem?_eq_getElem hl] at this
  exact Option.some.inj this
theorem endF_off {f sh d : Int} (hs : 0 ≤ sh) (hd : 0 ≤ d ∧ d ≤ 100000) : 0 ≤ (endF f sh d).o ∧ (endF f sh d).o ≤ 100000 := by
  unfold endF
  split
  · simp only; omega
  · split
    · simp
    · simp only; omega
theorem Seas.offs {ps : List Pe} {ls : List La} (h : Seas ps ls) (j : Nat) : 0 ≤ sumI (((endsFrom ps ls).map En.o).take j) ∧ sumI (((endsFrom ps ls).map En.o).take j) ≤ 600000 := by
  have hf := h.six
  have hb : ∀ x ∈ ((endsFrom ps ls).map En.o).take j, 0 ≤ x ∧ x ≤ 100000 := fun x hx => by
    obtain ⟨e, he, rfl⟩ := List.mem_map.1 (List.mem_of_mem_take hx)
    unfold endsFrom at he
    obtain ⟨k, hk, rfl⟩ := List.mem_map.1 he
    have hkl : k < ps.length := by simpa using hk
    have hp := h.pe _ (List.getElem_mem hkl)
    have hg : ps.getD k ⟨0, 0, 0⟩ = ps[k] := by simp [List.getD_eq_getElem?_getD, List.getElem?_eq_getElem hkl]
    rw [hg]
    exact endF_off (h.share k).1 ⟨hp.2.2.1, hp.2.2.2.1⟩
  have := sumI_bd (((endsFrom ps ls).map En.o).take j) 100000 (fun x hx => by have := hb x hx; omega)
  have hl : (((endsFrom ps ls).map En.o).take j).length ≤ 6 := by simp [ends_len]; omega
  exact ⟨sumI_nonneg _ (fun x hx => (hb x hx).1), by omega⟩
theorem flat_snoc {α : Type} (f : α → List Value) (xs : List α) (x : α) : flat f (xs ++ [x]) = flat f xs ++ f x := by rw [flat_append]; simp [flat]

theorem endF_paid {f sh d : Int} (hs : 0 ≤ sh) (hd : 0 ≤ d) : 0 ≤ (endF f sh d).p ∧ (endF f sh d).p ≤ sh := by
  unfold endF
  split
  · simp only; omega
  · split
    · simp; omega
    · simp only; omega
/-- The end of each fate, called. -/
def endFn (f : Int) : Nat := if f = 1 then 228 else if f = 2 then 229 else 230
theorem end_call (f sh d : Int) (hf : f = 1 ∨ f = 2 ∨ f = 3) (hs : 0 ≤ sh ∧ sh ≤ 1000000000000000000) (hd : 0 ≤ d ∧ d ≤ 1000000000000000000) (w : World) : Calls Tryz.prog (endFn f) #[.agg #[], .int .i64 sh, .int .i64 d] w fun e w' => e = .returned (endF f sh d).v ∧ Below w.heap.size w w' := by
  rcases hf with rfl | rfl | rfl
  · exact staying_c sh d hs hd w
  · exact deserting_c sh d w
  · exact dying_c sh d hs hd w

set_option maxHeartbeats 4000000 in
set_option maxRecDepth 20000 in
theorem inTheEnd_c (s : Sv) (hs : Seas s.ps s.ls) (b : Nat) (w : World) (hi : s.In w) (hm : MapAt w b (clF s.ps s.ls)) :
    Calls Tryz.prog 88 #[s.set (denF s.ps s.ls) (.map (some b))] w (Gives eE w (endsF s.ps s.ls)) := by
  have hpn : s.pn ≤ 6 := by rw [← hi.ps.1]; exact hs.six
  have hp2 : 2 ≤ s.pn := by rw [← hi.ps.1]; exact hs.two
  have hln : s.ln ≤ 6 := by rw [← hi.ls.1]; exact hs.few
  have HSh := Lib.hid fun (w' : World) (hb : Below w.heap.size w w') (k : Nat) => share_c s hs b k w' (hi.keep hb) (hm.keep hb)
  have HSe := Lib.hid hs
  obtain ⟨pA, lA, pn, pc, ln, lc, ps, ls⟩ := s
  obtain ⟨hp, hl⟩ := hi
  simp only [Sv.set] at *
  have HP := Lib.hid hp; have HPN := Lib.hid hp.1; have HL := Lib.hid hl; have HLN := Lib.hid hl.1
  clear hp hl hm hs
  obtain ⟨d, hd⟩ : ∃ d, d = denF ps ls := ⟨_, rfl⟩
  rw [← hd] at HSh
  rw [← hd]
  clear hd
  have hmk := makeE pn (by omega)
  have F := Lib.hid ((Has.new w 113 #[.slice pA pn pc, .slice lA ln lc, .int .i64 d, .map (some b)]).alloc (.cells (madeCells #[.int .i64 0, .int .i64 0, .int .i64 0, .int .i64 0, .int .i64 0] (pn * 5)) 46))
  have Z := Lib.hid (Has.new' (w.alloc (.cells #[.slice pA pn pc, .slice lA ln lc, .int .i64 d, .map (some b)] 113)) 46 (madeCells #[.int .i64 0, .int .i64 0, .int .i64 0, .int .i64 0, .int .i64 0] (pn * 5)) (g := w.heap.size + 1) (by simp))
  have B := Lib.hid (newB (newB (Below.refl w.heap.size w) (.cells #[.slice pA pn pc, .slice lA ln lc, .int .i64 d, .map (some b)] 113)) (.cells (madeCells #[.int .i64 0, .int .i64 0, .int .i64 0, .int .i64 0, .int .i64 0] (pn * 5)) 46))
  go_enter Tryz.func88, Tryz.ntmps88
  go_wp2
  generalize (w.alloc (.cells #[.slice pA pn pc, .slice lA ln lc, .int .i64 d, .map (some b)] 113)).alloc (.cells (madeCells #[.int .i64 0, .int .i64 0, .int .i64 0, .int .i64 0, .int .i64 0] (pn * 5)) 46) = W0 at *
  have HSZ := Lib.hid (size_madeCells #[.int .i64 0, .int .i64 0, .int .i64 0, .int .i64 0, .int .i64 0] (pn * 5))
  generalize madeCells #[.int .i64 0, .int .i64 0, .int .i64 0, .int .i64 0, .int .i64 0] (pn * 5) = mc at *
  clear hmk
  go_loopw [4, 18] (fun t v wr => ∃ (j : Nat) (cur : Array Value), j ≤ pn ∧ v = .int .i64 j ∧ t = .int .i64 (sumI (((endsFrom ps ls).map En.o).take j)) ∧ Below w.heap.size w wr ∧ Has wr w.heap.size 113 #[.slice pA pn pc, .slice lA ln lc, .int .i64 d, .map (some b)] ∧ Has wr (w.heap.size + 1) 46 cur ∧ cur.size = pn * 5
    ∧ cur.toList.take (j * 5) = flat En.cs ((endsFrom ps ls).take j)) (fun _ v _ => pn - (intOf v).toNat)
  case atStart => exact ⟨0, mc, by omega, rfl, by simp [sumI], B.out, F.out, Z.out, HSZ.out, by simp [flat]⟩
  case round =>
    obtain ⟨j, cur, hj, rfl, rfl, hB, hF, hZ, hS, hC⟩ := hrel
    have HB := Lib.hid hB; have HF := Lib.hid hF; have HZ := Lib.hid hZ; have HS := Lib.hid hS; have HCu := Lib.hid hC
    have hz := hZ.lt
    have qf := hF.cell
    clear hB hF hZ hS hC
    by_cases hjn : j < pn
    · have hjl : j < ps.length := by rw [HPN.out]; exact hjn
      have hx := List.getElem?_eq_getElem hjl
      have hpe := HSe.out.pe _ (List.getElem_mem hjl)
      obtain ⟨bb, o, he⟩ := HP.out.addr (by omega)
      obtain ⟨x, hxx⟩ : ∃ x, x = ps[j] := ⟨_, rfl⟩
      rw [← hxx] at hx hpe
      subst he
      have HTk := Lib.hid (ends_take (ls := ls) hx)
      have HTo := Lib.hid (show sumI (((endsFrom ps ls).map En.o).take (j + 1)) = sumI (((endsFrom ps ls).map En.o).take j) + (endF x.f (shareF ps ls j) x.d).o by
        rw [← List.map_take, ends_take hx, List.map_append, List.map_take]; exact sumI_snoc _ _)
      obtain ⟨x0, x1, x2⟩ := x
      have hR := Lib.hid (show wr.rangeAt bb (o + j * 3) [.int .i64 x0, .int .i64 x1, .int .i64 x2] from (HP.out.keep HB.out).range Pe.cs_len hx)
      simp only at hpe HTk HTo
      have hsb := HSe.out.share j
      have HEo := Lib.hid (endF_off (f := x2) hsb.1 (show 0 ≤ x1 ∧ x1 ≤ 100000 by omega))
      have HOf := Lib.hid (HSe.out.offs j)
      have HEC := Lib.hid fun (w' : World) => end_call x2 (shareF ps ls j) x1 (by omega) (by omega) (by omega) w'
      have HFt := Lib.hid (show x2 = 1 ∨ x2 = 2 ∨ x2 = 3 by omega)
      have X6 := Lib.hid (Has.new wr 49 #[.int .i64 x0, .int .i64 x1, .int .i64 x2])
      have BX := Lib.hid (newB (Below.refl wr.heap.size wr) (.cells #[.int .i64 x0, .int .i64 x1, .int .i64 x2] 49))
      clear hx hxx hpe hsb
      obtain ⟨E, hE⟩ : ∃ E, E = endF x2 (shareF ps ls j) x1 := ⟨_, rfl⟩
      rw [← hE] at HTk HTo HEo HEC
      clear hE
      obtain ⟨e0, e1, e2, e3, e4⟩ := E
      simp only at HTo HEo
      go_wp2_with (refine wpList_load_mid rfl 49 _ rfl bb (o + j * 3) rfl _ _ hR.out Tryz.underlying49 rfl (by kernel_rfl) ?_)
      have B6 := Lib.hid (nextB HB.out BX.out); have HF6 := Lib.hid (HF.out.after BX.out); have HZ6 := Lib.hid (HZ.out.after BX.out)
      generalize wr.alloc (.cells #[.int .i64 x0, .int .i64 x1, .int .i64 x2] 49) = W1 at *
      rcases HFt.out with rfl | rfl | rfl
      · have FE : ∀ w : World, Calls Tryz.prog 135 #[.int .i64 1] w fun e w' => e = .returned (.iface 181 (.agg #[])) ∧ w = w' := fun w => fateOf_c 1 w
        have HEK := Lib.hid (show ∀ (w' : World), Calls Tryz.prog 228 #[.agg #[], .int .i64 (shareF ps ls j), .int .i64 x1] w' fun e w'' => e = .returned (En.v ⟨e0, e1, e2, e3, e4⟩) ∧ Below w'.heap.size w' w'' from HEC.out)
        apply wp_loose 15 [.v _, .v _, .v _, .v _, .v _, .v _, .v _, .v _, .v _, .v _, .v _, .v _, .v _, .v _, .v _] (by kernel_rfl) (by kernel_rfl) (by kernel_rfl) (by decide) rfl
        intro K hK
        apply OblS.val rfl
        · intro w' hb _; go_simp; rfl
        apply OblS.val rfl
        · intro w' hb _; go_simp; rfl
        apply OblS.val rfl
        · intro w' hb _; go_simp; rfl
        apply OblS.val rfl
        · intro w' hb _; have := (X6.out.after hb).cell; go_simp; rfl
        apply OblS.call 135 rfl
        · intro w' hb _; apply Exists.intro; apply And.intro; (go_simp; rfl); exact same_calls (FE w')
        refine OblS.row rfl 113 _ rfl w.heap.size rfl 113 _ _ HF6.out Tryz.underlying113 rfl (by kernel_rfl) ?_
        apply OblS.val rfl
        · intro w' hb _; go_simp; rfl
        apply OblS.call 136 rfl
        · intro w' hb _; apply Exists.intro; apply And.intro; (go_simp; rfl); exact HSh.out w' (nextB B6.out hb) j
        apply OblS.val rfl
        · intro w' hb _; go_simp; rfl
        apply OblS.val rfl
        · intro w' hb _; have := (X6.out.after hb).cell; go_simp; rfl
        apply OblS.val rfl
        · intro w' hb _; go_simp; rfl
        apply OblS.val rfl
        · intro w' hb _; have hna : ∀ w : World, (nilAhead 343 181 (.agg #[]) "bathyal/share.end").run Tryz.prog w = .ok (some false) w := fun _ => by kernel_rfl
          go_simp; rfl
        apply OblS.val rfl
        · intro w' hb _; go_simp; rfl
        refine OblS.call 228 (by kernel_rfl) (fun w' hb _ => ⟨_, (by kernel_rfl), HEK.out w'⟩) ?_
        apply OblS.val rfl
        · intro w' hb _; go_simp; rfl
        apply OblS.nil
        apply hK
        intro w2 hb hH
        clear hH hK K
        simp only [Act.put, List.setIfInBounds_toArray, List.set_cons_zero, List.set_cons_succ, List.drop_succ_cons, List.drop_zero]
        have HB2 := Lib.hid (nextB B6.out hb); have HF2 := Lib.hid (HF6.out.after hb); have HZ2 := Lib.hid (HZ6.out.after hb)
        clear hb qf
        have CS := Lib.hid (over_get cur (j * 5) #[.int .i64 e0, .int .i64 e1, .int .i64 e2, .int .i64 e3, .int .i64 e4] (by have := HS.out; omega) 1 (by simp))
        have HZ3 := Lib.hid (HZ2.out.setRow (over cur (j * 5) #[.int .i64 e0, .int .i64 e1, .int .i64 e2, .int .i64 e3, .int .i64 e4]))
        have g1 : (w2.setRow (w.heap.size + 1) (over cur (j * 5) #[.int .i64 e0, .int .i64 e1, .int .i64 e2, .int .i64 e3, .int .i64 e4])).cell? ⟨w.heap.size + 1, j * 5 + 1, none⟩ = some (.int .i64 e1) := by rw [HZ3.out.cell, CS.out]; rfl
        obtain ⟨f0, f1⟩ := HEo.out
        obtain ⟨o0, o1⟩ := HOf.out
        go_wp2_with (refine wpList_store_part rfl 46 _ _ rfl (w.heap.size + 1) (j * 5) rfl #[.int .i64 e0, .int .i64 e1, .int .i64 e2, .int .i64 e3, .int .i64 e4] rfl 46 _ HZ2.out (by kernel_rfl) (by have := HS.out; simp; omega) (by simp [Value.oneCell']) ?_)
        go_roundw
        case rel => exact ⟨j + 1, _, by omega, by go_num, by rw [HTo.out], rowB HB2.out (by omega) _, HF2.out.setRow_far (by omega) _, HZ3.out, by rw [over_size _ _ _ (by have := HS.out; simp; omega)]; exact HS.out, by
          have h1 := over_take cur (j * 5) #[.int .i64 e0, .int .i64 e1, .int .i64 e2, .int .i64 e3, .int .i64 e4] (by have := HS.out; omega)
          rw [show (j + 1) * 5 = j * 5 + #[Value.int .i64 e0, .int .i64 e1, .int .i64 e2, .int .i64 e3, .int .i64 e4].size by simp; omega, h1, HCu.out, HTk.out, flat_snoc]
          rfl⟩
        case measure => simp [intOf]; omega
      · have FE : ∀ w : World, Calls Tryz.prog 135 #[.int .i64 2] w fun e w' => e = .returned (.iface 182 (.agg #[])) ∧ w = w' := fun w => fateOf_c 2 w
        have HEK := Lib.hid (show ∀ (w' : World), Calls Tryz.prog 229 #[.agg #[], .int .i64 (shareF ps ls j), .int .i64 x1] w' fun e w'' => e = .returned (En.v ⟨e0, e1, e2, e3, e4⟩) ∧ Below w'.heap.size w' w'' from HEC.out)
        apply wp_loose 15 [.v _, .v _, .v _, .v _, .v _, .v _, .v _, .v _, .v _, .v _, .v _, .v _, .v _, .v _, .v _] (by kernel_rfl) (by kernel_rfl) (by kernel_rfl) (by decide) rfl
        intro K hK
        apply OblS.val rfl
        · intro w' hb _; go_simp; rfl
        apply OblS.val rfl
        · intro w' hb _; go_simp; rfl
        apply OblS.val rfl
        · intro w' hb _; go_simp; rfl
        apply OblS.val rfl
        · intro w' hb _; have := (X6.out.after hb).cell; go_simp; rfl
        apply OblS.call 135 rfl
        · intro w' hb _; apply Exists.intro; apply And.intro; (go_simp; rfl); exact same_calls (FE w')
        refine OblS.row rfl 113 _ rfl w.heap.size rfl 113 _ _ HF6.out Tryz.underlying113 rfl (by kernel_rfl) ?_
        apply OblS.val rfl
        · intro w' hb _; go_simp; rfl
        apply OblS.call 136 rfl
        · intro w' hb _; apply Exists.intro; apply And.intro; (go_simp; rfl); exact HSh.out w' (nextB B6.out hb) j
        apply OblS.val rfl
        · intro w' hb _; go_simp; rfl
        apply OblS.val rfl
        · intro w' hb _; have := (X6.out.after hb).cell; go_simp; rfl
        apply OblS.val rfl
        · intro w' hb _; go_simp; rfl
        apply OblS.val rfl
        · intro w' hb _; have hna : ∀ w : World, (nilAhead 343 182 (.agg #[]) "bathyal/share.end").run Tryz.prog w = .ok (some false) w := fun _ => by kernel_rfl
          go_simp; rfl
        apply OblS.val rfl
        · intro w' hb _; go_simp; rfl
        refine OblS.call 229 (by kernel_rfl) (fun w' hb _ => ⟨_, (by kernel_rfl), HEK.out w'⟩) ?_
        apply OblS.val rfl
        · intro w' hb _; go_simp; rfl
        apply OblS.nil
        apply hK
        intro w2 hb hH
        clear hH hK K
        simp only [Act.put, List.setIfInBounds_toArray, List.set_cons_zero, List.set_cons_succ, List.drop_succ_cons, List.drop_zero]
        have HB2 := Lib.hid (nextB B6.out hb); have HF2 := Lib.hid (HF6.out.after hb); have HZ2 := Lib.hid (HZ6.out.after hb)
        clear hb qf
        have CS := Lib.hid (over_get cur (j * 5) #[.int .i64 e0, .int .i64 e1, .int .i64 e2, .int .i64 e3, .int .i64 e4] (by have := HS.out; omega) 1 (by simp))
        have HZ3 := Lib.hid (HZ2.out.setRow (over cur (j * 5) #[.int .i64 e0, .int .i64 e1, .int .i64 e2, .int .i64 e3, .int .i64 e4]))
        have g1 : (w2.setRow (w.heap.size + 1) (over cur (j * 5) #[.int .i64 e0, .int .i64 e1, .int .i64 e2, .int .i64 e3, .int .i64 e4])).cell? ⟨w.heap.size + 1, j * 5 + 1, none⟩ = some (.int .i64 e1) := by rw [HZ3.out.cell, CS.out]; rfl
        obtain ⟨f0, f1⟩ := HEo.out
        obtain ⟨o0, o1⟩ := HOf.out
        go_wp2_with (refine wpList_store_part rfl 46 _ _ rfl (w.heap.size + 1) (j * 5) rfl #[.int .i64 e0, .int .i64 e1, .int .i64 e2, .int .i64 e3, .int .i64 e4] rfl 46 _ HZ2.out (by kernel_rfl) (by have := HS.out; simp; omega) (by simp [Value.oneCell']) ?_)
        go_roundw
        case rel => exact ⟨j + 1, _, by omega, by go_num, by rw [HTo.out], rowB HB2.out (by omega) _, HF2.out.setRow_far (by omega) _, HZ3.out, by rw [over_size _ _ _ (by have := HS.out; simp; omega)]; exact HS.out, by
          have h1 := over_take cur (j * 5) #[.int .i64 e0, .int .i64 e1, .int .i64 e2, .int .i64 e3, .int .i64 e4] (by have := HS.out; omega)
          rw [show (j + 1) * 5 = j * 5 + #[Value.int .i64 e0, .int .i64 e1, .int .i64 e2, .int .i64 e3, .int .i64 e4].size by simp; omega, h1, HCu.out, HTk.out, flat_snoc]
          rfl⟩
        case measure => simp [intOf]; omega
      · have FE : ∀ w : World, Calls Tryz.prog 135 #[.int .i64 3] w fun e w' => e = .returned (.iface 183 (.agg #[])) ∧ w = w' := fun w => fateOf_c 3 w
        have HEK := Lib.hid (show ∀ (w' : World), Calls Tryz.prog 230 #[.agg #[], .int .i64 (shareF ps ls j), .int .i64 x1] w' fun e w'' => e = .returned (En.v ⟨e0, e1, e2, e3, e4⟩) ∧ Below w'.heap.size w' w'' from HEC.out)
        apply wp_loose 15 [.v _, .v _, .v _, .v _, .v _, .v _, .v _, .v _, .v _, .v _, .v _, .v _, .v _, .v _, .v _] (by kernel_rfl) (by kernel_rfl) (by kernel_rfl) (by decide) rfl
        intro K hK
        apply OblS.val rfl
        · intro w' hb _; go_simp; rfl
        apply OblS.val rfl
        · intro w' hb _; go_simp; rfl
        apply OblS.val rfl
        · intro w' hb _; go_simp; rfl
        apply OblS.val rfl
        · intro w' hb _; have := (X6.out.after hb).cell; go_simp; rfl
        apply OblS.call 135 rfl
        · intro w' hb _; apply Exists.intro; apply And.intro; (go_simp; rfl); exact same_calls (FE w')
        refine OblS.row rfl 113 _ rfl w.heap.size rfl 113 _ _ HF6.out Tryz.underlying113 rfl (by kernel_rfl) ?_
        apply OblS.val rfl
        · intro w' hb _; go_simp; rfl
        apply OblS.call 136 rfl
        · intro w' hb _; apply Exists.intro; apply And.intro; (go_simp; rfl); exact HSh.out w' (nextB B6.out hb) j
        apply OblS.val rfl
        · intro w' hb _; go_simp; rfl
        apply OblS.val rfl
        · intro w' hb _; have := (X6.out.after hb).cell; go_simp; rfl
        apply OblS.val rfl
        · intro w' hb _; go_simp; rfl
        apply OblS.val rfl
        · intro w' hb _; have hna : ∀ w : World, (nilAhead 343 183 (.agg #[]) "bathyal/share.end").run Tryz.prog w = .ok (some false) w := fun _ => by kernel_rfl
          go_simp; rfl
        apply OblS.val rfl
        · intro w' hb _; go_simp; rfl
        refine OblS.call 230 (by kernel_rfl) (fun w' hb _ => ⟨_, (by kernel_rfl), HEK.out w'⟩) ?_
        apply OblS.val rfl
        · intro w' hb _; go_simp; rfl
        apply OblS.nil
        apply hK
        intro w2 hb hH
        clear hH hK K
        simp only [Act.put, List.setIfInBounds_toArray, List.set_cons_zero, List.set_cons_succ, List.drop_succ_cons, List.drop_zero]
        have HB2 := Lib.hid (nextB B6.out hb); have HF2 := Lib.hid (HF6.out.after hb); have HZ2 := Lib.hid (HZ6.out.after hb)
        clear hb qf
        have CS := Lib.hid (over_get cur (j * 5) #[.int .i64 e0, .int .i64 e1, .int .i64 e2, .int .i64 e3, .int .i64 e4] (by have := HS.out; omega) 1 (by simp))
        have HZ3 := Lib.hid (HZ2.out.setRow (over cur (j * 5) #[.int .i64 e0, .int .i64 e1, .int .i64 e2, .int .i64 e3, .int .i64 e4]))
        have g1 : (w2.setRow (w.heap.size + 1) (over cur (j * 5) #[.int .i64 e0, .int .i64 e1, .int .i64 e2, .int .i64 e3, .int .i64 e4])).cell? ⟨w.heap.size + 1, j * 5 + 1, none⟩ = some (.int .i64 e1) := by rw [HZ3.out.cell, CS.out]; rfl
        obtain ⟨f0, f1⟩ := HEo.out
        obtain ⟨o0, o1⟩ := HOf.out
        go_wp2_with (refine wpList_store_part rfl 46 _ _ rfl (w.heap.size + 1) (j * 5) rfl #[.int .i64 e0, .int .i64 e1, .int .i64 e2, .int .i64 e3, .int .i64 e4] rfl 46 _ HZ2.out (by kernel_rfl) (by have := HS.out; simp; omega) (by simp [Value.oneCell']) ?_)
        go_roundw
        case rel => exact ⟨j + 1, _, by omega, by go_num, by rw [HTo.out], rowB HB2.out (by omega) _, HF2.out.setRow_far (by omega) _, HZ3.out, by rw [over_size _ _ _ (by have := HS.out; simp; omega)]; exact HS.out, by
          have h1 := over_take cur (j * 5) #[.int .i64 e0, .int .i64 e1, .int .i64 e2, .int .i64 e3, .int .i64 e4] (by have := HS.out; omega)
          rw [show (j + 1) * 5 = j * 5 + #[Value.int .i64 e0, .int .i64 e1, .int .i64 e2, .int .i64 e3, .int .i64 e4].size by simp; omega, h1, HCu.out, HTk.out, flat_snoc]
          rfl⟩
        case measure => simp [intOf]; omega
    · have hjn' : j = pn := by omega
      subst hjn'
      have HLe := Lib.hid (ends_len ps ls)
      have HTk := Lib.hid (show (endsFrom ps ls).take j = endsFrom ps ls from List.take_of_length_le (by rw [HLe.out, HPN.out]; omega))
      have HTo := Lib.hid (show ((endsFrom ps ls).map En.o).take j = (endsFrom ps ls).map En.o from List.take_of_length_le (by simp [HLe.out, HPN.out]))
      have HFl := Lib.hid (show cur.toList = flat En.cs (endsFrom ps ls) by have := HCu.out; rw [HTk.out, List.take_of_length_le (by simp [HS.out])] at this; exact this)
      obtain ⟨o0, o1⟩ := HSe.out.offs j
      rw [HTo.out] at o0 o1
      rw [HTo.out]
      obtain ⟨O, hO⟩ : ∃ O, O = sumI ((endsFrom ps ls).map En.o) := ⟨_, rfl⟩
      rw [← hO] at o0 o1
      rw [← hO]
      have HO := Lib.hid hO
      clear hO
      obtain ⟨wo, rfl⟩ : ∃ wo : World, wo = wr := ⟨_, rfl⟩
      go_wp2
      go_loopw [4, 50] (fun t v wr => ∃ (i : Nat), i ≤ ln ∧ v = .int .i64 i ∧ t = .int .i64 (O - sumI ((ls.map defI).take i)) ∧ Below w.heap.size w wr ∧ Has wr (w.heap.size + 1) 46 cur) (fun _ v _ => ln - (intOf v).toNat)
      case atStart => exact ⟨0, by omega, rfl, by simp [sumI], HB.out, HZ.out⟩
      case round =>
        obtain ⟨i, hi, rfl, rfl, hB, hZ⟩ := hrel
        clear HB HZ
        have HB := Lib.hid hB; have HZ := Lib.hid hZ
        have zz := hZ.lt
        clear hB hZ hz qf
        obtain ⟨d0, d1⟩ := HSe.out.defs i
        by_cases hin : i < ln
        · have hil : i < ls.length := by rw [HLN.out]; exact hin
          have hx := List.getElem?_eq_getElem hil
          have hla := HSe.out.la _ (List.getElem_mem hil)
          have HT := Lib.hid (show sumI ((ls.map defI).take (i + 1)) = sumI ((ls.map defI).take i) + defI ls[i] by rw [sumI_take _ _ (by simpa using hil)]; simp)
          obtain ⟨bb, o, he⟩ := HL.out.addr (by omega)
          obtain ⟨y, hyy⟩ : ∃ y, y = ls[i] := ⟨_, rfl⟩
          rw [← hyy] at hx hla HT
          subst he
          obtain ⟨y0, y1, y2⟩ := y
          have hR := Lib.hid (show wr.rangeAt bb (o + i * 3) [.int .i64 y0, .int .i64 y1, .int .i64 y2] from (HL.out.keep HB.out).range La.cs_len hx)
          have hdf : 0 ≤ defI ⟨y0, y1, y2⟩ ∧ defI ⟨y0, y1, y2⟩ ≤ 100000 := by unfold defI; simp only at hla ⊢; omega
          obtain ⟨k0, k1⟩ := hdf
          have HLA := Lib.hid hla
          clear hx hyy hla
          go_wp2_with (first
            | (refine wpList_load_mid rfl 44 _ rfl bb (o + i * 3) rfl _ _ hR.out Tryz.underlying44 rfl (by kernel_rfl) ?_)
            | (go_at_call 137; refine (deficit_c y0 y1 y2 (by have := HLA.out; omega) (by have := HLA.out; omega) _).mono ?_; rintro e w1 ⟨rfl, hb1⟩; have HB1 := Lib.hid hb1; clear hb1))
          go_roundw
          case rel => exact ⟨i + 1, by omega, by go_num, by rw [HT.out]; congr 1; omega, nextB (newB HB.out _) HB1.out, (HZ.out.alloc _).after HB1.out⟩
          case measure => simp [intOf]; omega
        · have hin' : i = ln := by omega
          subst hin'
          have HTd := Lib.hid (show (ls.map defI).take i = ls.map defI from List.take_of_length_le (by simp [HLN.out]))
          rw [HTd.out] at d0 d1
          rw [HTd.out]
          have hM : moreF ps ls = O - sumI (ls.map defI) := by unfold moreF; rw [HO.out]
          obtain ⟨M, hMM⟩ : ∃ M, M = O - sumI (ls.map defI) := ⟨_, rfl⟩
          rw [← hMM] at hM
          have HM := Lib.hid hM
          have m0 : -600000 ≤ M := by omega
          have m1 : M ≤ 600000 := by omega
          rw [← hMM]
          clear hMM hM d0 d1
          obtain ⟨e, r, her⟩ : ∃ e r, endsFrom ps ls = e :: r := by
            cases h : endsFrom ps ls with
            | nil => have := HLe.out; rw [h, HPN.out] at this; simp at this; omega
            | cons e r => exact ⟨e, r, rfl⟩
          have hep : 0 ≤ e.p ∧ e.p ≤ 114661785600000 := by
            have h0 : 0 < ps.length := by rw [HPN.out]; omega
            have hx := List.getElem?_eq_getElem h0
            have hg := ends_get (ls := ls) hx
            rw [her] at hg
            simp at hg
            have hpe := HSe.out.pe _ (List.getElem_mem h0)
            have hsh := HSe.out.share 0
            rw [hg]
            have := endF_paid (f := ps[0].f) hsh.1 hpe.2.2.1
            omega
          obtain ⟨e0, e1, e2, e3, e4⟩ := e
          obtain ⟨p0, p1⟩ := hep
          simp only at p0 p1
          have HEr := Lib.hid her
          have HC := Lib.hid (show cur.toList = [.int .i64 e0, .int .i64 e1, .int .i64 e2, .int .i64 e3, .int .i64 e4] ++ flat En.cs r by rw [HFl.out, her]; rfl)
          have g2 : wr.cell? ⟨w.heap.size + 1, 2, none⟩ = some (.int .i64 e2) := by rw [HZ.out.cell, ← Array.getElem?_toList, HC.out]; rfl
          have g2f := HZ.out.frozen 2
          clear her
          go_wp2
          refine bodyPost_ret (results_tmp rfl _ _ _) rfl ⟨.slice (some ⟨w.heap.size + 1, 0, none⟩) j j, rfl, ?_, setB HB.out (by simp) _⟩
          have hlen : (endsF ps ls).length = j := by unfold endsF; rw [HEr.out]; have := HLe.out; rw [HEr.out, HPN.out] at this; simpa [addHouse] using this
          refine Own.of_has (n := j) (cur := cur.setIfInBounds 2 (.int .i64 (e2 + M))) eE_ok (HZ.out.set 2 (.int .i64 (e2 + M))) (by omega) hlen (by simp [HS.out]; rfl) ?_ (by unfold maxLen; omega)
          rw [Array.toList_setIfInBounds, HC.out]
          unfold endsF
          rw [HEr.out, HM.out]
          rfl
end Go.Proofs
namespace Go.Proofs
open Go.RowKit
attribute [local go_sem ↓] Go.wp_at_zero Go.wp_at_succ

def totL (ps : List Pe) (ls : List La) : List Int := (List.range ps.length).map (totF ps ls)
theorem claims_no (s : Sv) (hpn : s.pn ≤ 1000000) (hln : s.ln ≤ 1000000) (hs : seasonB s.ps s.ls = false) (w : World) (hi : s.In w) :
    Calls Tryz.prog 26 #[s.val] w fun e w' => e = .returned (.tuple #[.slice none 0 0, .int .i64 0, .int .i64 2]) ∧ Below w.heap.size w w' := by
  have HC := Lib.hid fun (w' : World) (hb : Below w.heap.size w w') => check_c s hpn hln w' (hi.keep hb)
  obtain ⟨pA, lA, pn, pc, ln, lc, ps, ls⟩ := s
  simp only [Sv.val] at *
  rw [hs] at HC
  clear hi hs
  go_enter Tryz.func26, Tryz.ntmps26
  go_wp2_with (go_at_call 25; refine (HC.out _ (newB (Below.refl _ _) _)).mono ?_; rintro e w1 ⟨rfl, hb1⟩; rw [show errI false = 2 from rfl]; have HB1 := Lib.hid hb1; clear hb1)
  exact bodyPost_ret (results_tmp3 rfl _ _ _) rfl ⟨rfl, nextB (newB (Below.refl _ _) _) HB1.out⟩
theorem settle_no (s : Sv) (hpn : s.pn ≤ 1000000) (hln : s.ln ≤ 1000000) (hs : seasonB s.ps s.ls = false) (w : World) (hi : s.In w) :
    Calls Tryz.prog 31 #[s.val] w fun e w' => e = .returned (.tuple #[.slice none 0 0, .int .i64 0, .int .i64 2]) ∧ Below w.heap.size w w' := by
  have HC := Lib.hid fun (w' : World) (hb : Below w.heap.size w w') => check_c s hpn hln w' (hi.keep hb)
  obtain ⟨pA, lA, pn, pc, ln, lc, ps, ls⟩ := s
  simp only [Sv.val] at *
  rw [hs] at HC
  clear hi hs
  go_enter Tryz.func31, Tryz.ntmps31
  go_wp2_with (go_at_call 25; refine (HC.out _ (newB (Below.refl _ _) _)).mono ?_; rintro e w1 ⟨rfl, hb1⟩; rw [show errI false = 2 from rfl]; have HB1 := Lib.hid hb1; clear hb1)
  exact bodyPost_ret (results_tmp3 rfl _ _ _) rfl ⟨rfl, nextB (newB (Below.refl _ _) _) HB1.out⟩

set_option maxHeartbeats 2000000 in
theorem claims_ok (s : Sv) (hs : Seas s.ps s.ls) (w : World) (hi : s.In w) :
    Calls Tryz.prog 26 #[s.val] w fun e w' => ∃ v, e = .returned (.tuple #[v, .int .i64 (denF s.ps s.ls), .int .i64 0]) ∧ Own eI w.heap.size v (totL s.ps s.ls) w' ∧ Below w.heap.size w w' := by
  have hp6 : s.pn ≤ 6 := by rw [← hi.ps.1]; exact hs.six
  have hl6 : s.ln ≤ 6 := by rw [← hi.ls.1]; exact hs.few
  have HC := Lib.hid fun (w' : World) (hb : Below w.heap.size w w') => check_c s (by omega) (by omega) w' (hi.keep hb)
  have HS := Lib.hid fun (w' : World) (hb : Below w.heap.size w w') => settle_c s hs w' (hi.keep hb)
  have HT := Lib.hid fun (w' : World) (hb : Below w.heap.size w w') (b : Nat) (hm : MapAt w' b (clF s.ps s.ls)) => (show Calls Tryz.prog 81 #[s.set (denF s.ps s.ls) (.map (some b))] w' (Gives eI w' (totL s.ps s.ls)) from by
    have := totals_c s hs b w' (hi.keep hb) hm; rw [← hi.ps.1] at this; exact this)
  rw [(seas_iff _ _).2 hs] at HC
  obtain ⟨pA, lA, pn, pc, ln, lc, ps, ls⟩ := s
  replace HS := Lib.hid (show ∀ (w' : World), Below w.heap.size w w' → Calls Tryz.prog 80 #[.agg #[.slice pA pn pc, .slice lA ln lc]] w' fun e w'' => ∃ g, e = .returned (.agg #[.slice pA pn pc, .slice lA ln lc, .int .i64 (denF ps ls), .map (some g)]) ∧ MapAt w'' g (clF ps ls) ∧ Below w'.heap.size w' w'' from HS.out)
  simp only [Sv.val, Sv.set] at *
  clear hi hs
  generalize denF ps ls = d at *
  have F0 := Lib.hid (Has.new w 25 #[.slice pA pn pc, .slice lA ln lc])
  have B0 := Lib.hid (newB (Below.refl w.heap.size w) (.cells #[.slice pA pn pc, .slice lA ln lc] 25))
  go_enter Tryz.func26, Tryz.ntmps26
  go_wp2_with (first
    | (go_at_call 25; refine (HC.out _ B0.out).mono ?_; rintro e w1 ⟨rfl, hb1⟩; rw [show errI true = 0 from rfl]; have HB1 := Lib.hid (nextB B0.out hb1); have HF1 := Lib.hid (F0.out.after hb1); clear hb1)
    | (refine wpList_load_row rfl 25 _ rfl w.heap.size rfl 25 _ (0, 0) _ HF1.out Tryz.underlying25 rfl (by kernel_rfl) ?_)
    | (go_at_call 80; refine (HS.out _ HB1.out).mono ?_; rintro e w2 ⟨g, rfl, hm, hb2⟩; have HB2 := Lib.hid (nextB HB1.out hb2); have HM2 := Lib.hid hm; clear hb2 hm))
  have B3 := Lib.hid (nextB HB2.out (newB (Below.refl w2.heap.size w2) (.cells #[.slice pA pn pc, .slice lA ln lc, .int .i64 d, .map (some g)] 113)))
  have X6 := Lib.hid (Has.new w2 113 #[.slice pA pn pc, .slice lA ln lc, .int .i64 d, .map (some g)])
  have HM3 := Lib.hid (HM2.out.keep (newB (Below.refl _ _) (.cells #[.slice pA pn pc, .slice lA ln lc, .int .i64 d, .map (some g)] 113)))
  generalize w2.alloc (.cells #[.slice pA pn pc, .slice lA ln lc, .int .i64 d, .map (some g)] 113) = W3 at *
  apply wp_loose 7 [.v _, .r (fun v w' => Own eI w.heap.size v (totL ps ls) w'), .v _, .v _, .r (fun v w' => Own eI w.heap.size v (totL ps ls) w'), .v _, .v _] (by kernel_rfl) (by kernel_rfl) (by kernel_rfl) (by decide) rfl
  intro K hK
  refine OblS.row rfl 113 _ rfl w2.heap.size rfl 113 _ _ X6.out Tryz.underlying113 rfl (by kernel_rfl) ?_
  apply OblS.callR 81
  · intro v w1 w2 h hb; exact h.keep hb
  · rfl
  · intro w' hb _
    apply Exists.intro; apply And.intro; (go_simp; rfl); refine (HT.out w' (nextB B3.out hb) g (HM3.out.keep hb)).mono ?_
    rintro e w2 ⟨v, rfl, ho, hb2⟩
    exact ⟨v, rfl, ho.lower (nextB B3.out hb).size, hb2⟩
  intro v1
  apply OblS.val rfl
  · intro w' hb _; go_simp; rfl
  apply OblS.val rfl
  · intro w' hb _; have := (X6.out.after hb).cell; go_simp; rfl
  apply OblS.run
  · intro v w1 w2 h hb; exact h.keep hb
  · rfl
  · intro w' hb hH
    have ho := hH _ (List.mem_cons_self ..) (by kernel_rfl)
    exact ⟨v1, w', by go_simp, ho, Below.refl _ _⟩
  intro v4
  apply OblS.val rfl
  · intro w' hb _; go_simp; rfl
  apply OblS.val rfl
  · intro w' hb _; go_simp; rfl
  apply OblS.nil
  apply hK
  intro w3 hb hH
  have HO := Lib.hid (hH _ (List.mem_cons_self ..))
  clear hH hK K
  simp only [Act.put, List.setIfInBounds_toArray, List.set_cons_zero, List.set_cons_succ, List.drop_succ_cons, List.drop_zero]
  have HB4 := Lib.hid (nextB B3.out hb)
  clear hb
  go_wp2
  exact bodyPost_ret (results_tmp3 rfl _ _ _) rfl ⟨_, rfl, HO.out, HB4.out⟩

set_option maxHeartbeats 2000000 in
theorem settle_ok (s : Sv) (hs : Seas s.ps s.ls) (w : World) (hi : s.In w) :
    Calls Tryz.prog 31 #[s.val] w fun e w' => ∃ v, e = .returned (.tuple #[v, .int .i64 (boxF s.ps s.ls), .int .i64 0]) ∧ Own eE w.heap.size v (endsF s.ps s.ls) w' ∧ Below w.heap.size w w' := by
  have hp6 : s.pn ≤ 6 := by rw [← hi.ps.1]; exact hs.six
  have hl6 : s.ln ≤ 6 := by rw [← hi.ls.1]; exact hs.few
  have HC := Lib.hid fun (w' : World) (hb : Below w.heap.size w w') => check_c s (by omega) (by omega) w' (hi.keep hb)
  have HS := Lib.hid fun (w' : World) (hb : Below w.heap.size w w') => settle_c s hs w' (hi.keep hb)
  have HT := Lib.hid fun (w' : World) (hb : Below w.heap.size w w') (b : Nat) (hm : MapAt w' b (clF s.ps s.ls)) => inTheEnd_c s hs b w' (hi.keep hb) hm
  have HX := Lib.hid fun (w' : World) (hb : Below w.heap.size w w') (b : Nat) (hm : MapAt w' b (clF s.ps s.ls)) => box_c s hs b w' (hi.keep hb) hm
  rw [(seas_iff _ _).2 hs] at HC
  obtain ⟨pA, lA, pn, pc, ln, lc, ps, ls⟩ := s
  replace HS := Lib.hid (show ∀ (w' : World), Below w.heap.size w w' → Calls Tryz.prog 80 #[.agg #[.slice pA pn pc, .slice lA ln lc]] w' fun e w'' => ∃ g, e = .returned (.agg #[.slice pA pn pc, .slice lA ln lc, .int .i64 (denF ps ls), .map (some g)]) ∧ MapAt w'' g (clF ps ls) ∧ Below w'.heap.size w' w'' from HS.out)
  simp only [Sv.val, Sv.set] at *
  clear hi hs
  generalize denF ps ls = d at *
  have F0 := Lib.hid (Has.new w 25 #[.slice pA pn pc, .slice lA ln lc])
  have B0 := Lib.hid (newB (Below.refl w.heap.size w) (.cells #[.slice pA pn pc, .slice lA ln lc] 25))
  go_enter Tryz.func31, Tryz.ntmps31
  go_wp2_with (first
    | (go_at_call 25; refine (HC.out _ B0.out).mono ?_; rintro e w1 ⟨rfl, hb1⟩; rw [show errI true = 0 from rfl]; have HB1 := Lib.hid (nextB B0.out hb1); have HF1 := Lib.hid (F0.out.after hb1); clear hb1)
    | (refine wpList_load_row rfl 25 _ rfl w.heap.size rfl 25 _ (0, 0) _ HF1.out Tryz.underlying25 rfl (by kernel_rfl) ?_)
    | (go_at_call 80; refine (HS.out _ HB1.out).mono ?_; rintro e w2 ⟨g, rfl, hm, hb2⟩; have HB2 := Lib.hid (nextB HB1.out hb2); have HM2 := Lib.hid hm; clear hb2 hm))
  have B3 := Lib.hid (nextB HB2.out (newB (Below.refl w2.heap.size w2) (.cells #[.slice pA pn pc, .slice lA ln lc, .int .i64 d, .map (some g)] 113)))
  have X6 := Lib.hid (Has.new w2 113 #[.slice pA pn pc, .slice lA ln lc, .int .i64 d, .map (some g)])
  have HM3 := Lib.hid (HM2.out.keep (newB (Below.refl _ _) (.cells #[.slice pA pn pc, .slice lA ln lc, .int .i64 d, .map (some g)] 113)))
  generalize w2.alloc (.cells #[.slice pA pn pc, .slice lA ln lc, .int .i64 d, .map (some g)] 113) = W3 at *
  apply wp_loose 7 [.v _, .r (fun v w' => Own eE w.heap.size v (endsF ps ls) w'), .v _, .v _, .r (fun v w' => Own eE w.heap.size v (endsF ps ls) w'), .v _, .v _] (by kernel_rfl) (by kernel_rfl) (by kernel_rfl) (by decide) rfl
  intro K hK
  refine OblS.row rfl 113 _ rfl w2.heap.size rfl 113 _ _ X6.out Tryz.underlying113 rfl (by kernel_rfl) ?_
  apply OblS.callR 88
  · intro v w1 w2 h hb; exact h.keep hb
  · rfl
  · intro w' hb _
    apply Exists.intro; apply And.intro; (go_simp; rfl); refine (HT.out w' (nextB B3.out hb) g (HM3.out.keep hb)).mono ?_
    rintro e w2 ⟨v, rfl, ho, hb2⟩
    exact ⟨v, rfl, ho.lower (nextB B3.out hb).size, hb2⟩
  intro v1
  refine OblS.row rfl 113 _ rfl w2.heap.size rfl 113 _ _ X6.out Tryz.underlying113 rfl (by kernel_rfl) ?_
  apply OblS.call 89 rfl
  · intro w' hb _
    apply Exists.intro; apply And.intro; (go_simp; rfl); exact HX.out w' (nextB B3.out hb) g (HM3.out.keep hb)
  apply OblS.run
  · intro v w1 w2 h hb; exact h.keep hb
  · rfl
  · intro w' hb hH
    have ho := hH _ (List.mem_cons_self ..) (by kernel_rfl)
    exact ⟨v1, w', by go_simp, ho, Below.refl _ _⟩
  intro v4
  apply OblS.val rfl
  · intro w' hb _; go_simp; rfl
  apply OblS.val rfl
  · intro w' hb _; go_simp; rfl
  apply OblS.nil
  apply hK
  intro w3 hb hH
  have HO := Lib.hid (hH _ (List.mem_cons_self ..))
  clear hH hK K
  simp only [Act.put, List.setIfInBounds_toArray, List.set_cons_zero, List.set_cons_succ, List.drop_succ_cons, List.drop_zero]
  have HB4 := Lib.hid (nextB B3.out hb)
  clear hb
  go_wp2
  exact bodyPost_ret (results_tmp3 rfl _ _ _) rfl ⟨_, rfl, HO.out, HB4.out⟩
end Go.Proofs
