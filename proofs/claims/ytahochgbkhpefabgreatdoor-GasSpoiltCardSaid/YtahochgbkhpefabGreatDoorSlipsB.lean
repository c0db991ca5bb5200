/-
  Contracts of the specification's Print and Read hold at every dive and text of moderate size, and the law GasReads returns true at every text where the table of powers of ten lies in memory.
-/
import Derived.Test.YtahochgbkhpefabGreatDoorSlipsA
import Derived.Laws.IdiomStrings
import Derived.Test.YtahochgbkhpefabGreatDoorP6
import Derived.Test.YtahochgbkhpefabGreatDoorP9
import Derived.Lib.LaidTab
import Derived.Test.YtahochgbkhpefabGreatDoorP12
import Derived.Test.YtahochgbkhpefabGreatDoorP11
namespace Go.Proofs
open Go.RowKit Go.Shelf Gas
attribute [local go_sem ↓] Go.wp_at_zero Go.wp_at_succ

/-- The parts of a text, where some bytes of the first one have come before. -/
def pcs (c : UInt8) : List UInt8 → List UInt8 → List (List UInt8)
  | cur, [] => [cur]
  | cur, x :: r => if x == c then cur :: pcs c [] r else pcs c (cur ++ [x]) r
theorem pieces_cons (c : UInt8) (s : List UInt8) : ∃ p ps, pieces c s = p :: ps := by
  cases hp : pieces c s with
  | nil => exact absurd hp (pieces_ne c s)
  | cons q r => exact ⟨q, r, rfl⟩
theorem pcs_pieces (c : UInt8) : ∀ (s cur p : List UInt8) (ps : List (List UInt8)), pieces c s = p :: ps → pcs c cur s = (cur ++ p) :: ps
  | [], cur, p, ps, h => by simp [pieces] at h; obtain ⟨rfl, rfl⟩ := h; simp [pcs]
  | x :: r, cur, p, ps, h => by
    simp only [pieces] at h
    obtain ⟨q, t, hq⟩ := pieces_cons c r
    by_cases hx : (x == c) = true
    · rw [if_pos hx] at h
      cases h
      rw [pcs, if_pos hx, pcs_pieces c r [] q t hq, hq]; simp
    · rw [if_neg hx, hq] at h
      cases h
      rw [pcs, if_neg hx, pcs_pieces c r _ q _ hq]; simp
theorem pcs_nil (c : UInt8) (s : List UInt8) : pcs c [] s = pieces c s := by
  obtain ⟨q, t, hq⟩ := pieces_cons c s
  rw [pcs_pieces c s [] q t hq, hq]; rfl
theorem bs_cut (l : List UInt8) (a b : Nat) (_ : a ≤ b) : (bs l).extract a b = bs ((l.drop a).take (b - a)) := by
  apply ByteArray.ext
  simp [bs, ByteArray.data_extract]

theorem owns_str {w : World} {b : Nat} {v : Value} {xs : List (List UInt8)} (h : w.ownsRow b 9 1 v xs.length (flat strC xs)) : ∃ A c, v = .slice A xs.length c ∧ SlOf strC 1 w A xs.length xs := by
  rcases h.2 with ⟨rfl, h0⟩ | ⟨g, cap, cur, rfl, h2, h3, h4, h5, h6, h7⟩
  · have hx : xs = [] := List.eq_nil_of_length_eq_zero (by omega)
    subst hx
    exact ⟨none, 0, rfl, SlOf.nil _ _ _⟩
  · have hr : RowOf strC 1 w g 9 xs.length xs := ⟨cur, h3, rfl, fun j u hu => by
      rw [← h7, List.getElem?_take] at hu
      split at hu
      · rw [← Array.getElem?_toList]; exact hu
      · cases hu⟩
    exact ⟨_, cap, rfl, hr.sl strC_len⟩

set_option maxHeartbeats 2000000 in
set_option maxRecDepth 20000 in
/-- The specification's split. -/
theorem refSplit_c (c : UInt8) (s : List UInt8) (hs : s.length ≤ 1000) (w : World) :
    Calls Tryz.prog 84 #[.string (bs s), .int .u8 (c.toNat : Nat)] w fun e w' => ∃ A cap, e = .returned (.slice A (pieces c s).length cap) ∧ SlOf strC 1 w' A (pieces c s).length (pieces c s) ∧ Below w.heap.size w w' := by
  have HP0 := Lib.hid (pcs_nil c s)
  go_enter Tryz.func84, Tryz.ntmps84
  go_wp2
  go_loopw [5, 6, 7] (fun v f i wr => ∃ (k j : Nat) (ps : List (List UInt8)), k ≤ s.length ∧ j ≤ k ∧ i = .int .i64 k ∧ f = .int .i64 j ∧ wr.ownsRow w.heap.size 9 1 v ps.length (flat strC ps) ∧ ps.length ≤ k ∧ pieces c s = ps ++ pcs c ((s.drop j).take (k - j)) (s.drop k) ∧ Below w.heap.size w wr) (fun _ _ i _ => s.length - (intOf i).toNat)
  case atStart => exact ⟨0, 0, [], by omega, by omega, rfl, rfl, World.ownsRow_nil _ _ _ _, by simp, by simp [HP0.out], Below.refl _ _⟩
  case round =>
    obtain ⟨k, j, ps, hk, hj, rfl, rfl, hO, hpl, hp, hB⟩ := hrel
    have HO := Lib.hid hO; have HP := Lib.hid hp; have HB := Lib.hid hB
    clear hO hp hB
    have hsz : ((bs s).size : Int) = s.length := by rw [bs_size]
    by_cases hks : k < s.length
    · have hki : k < (bs s).size := by rw [bs_size]; exact hks
      have hg := bs_get s k hki
      have HD := Lib.hid (List.drop_eq_getElem_cons hks)
      generalize hb : s[k]'hks = b at *
      obtain ⟨y, hy⟩ : ∃ y, y = (s.drop j).take (k - j) := ⟨_, rfl⟩
      have hcut : (bs s).extract j k = bs y := by rw [bs_cut s j k hj, hy]
      have HY := Lib.hid hy
      rw [← hy] at HP
      by_cases hbc : b = c
      · have HP2 := Lib.hid (show pieces c s = (ps ++ [y]) ++ pcs c ((s.drop (k + 1)).take ((k + 1) - (k + 1))) (s.drop (k + 1)) by
          rw [HP.out, HD.out, hbc]; simp [pcs])
        have B1 := Lib.hid (newB HB.out (.cells #[.string (bs y)] 9))
        have O1 := Lib.hid (HO.out.alloc (.cells #[.string (bs y)] 9))
        clear hy hb
        go_wp2_with (at_builtin; refine wpList_app205 rfl _ _ rfl w.heap.size u5 ps rfl O1.out (by omega) wr.heap.size y rfl (Has.new wr 9 _) B1.out.size ?_; intro v3 w3 ho3 hb3 _; have HO3 := Lib.hid ho3; have HB3 := Lib.hid (B1.out.trans hb3); clear ho3 hb3)
        go_roundw
        case rel => exact ⟨k + 1, k + 1, ps ++ [y], by omega, by omega, by go_num, by go_num, HO3.out, by simp; omega, HP2.out, HB3.out⟩
        case measure => first | (simp [intOf]; done) | (simp [intOf]; omega)
      · have hbc2 : ((b.toNat : Int) == (c.toNat : Int)) = false := by
          rw [beq_eq_false_iff_ne]
          intro e
          exact hbc (UInt8.toNat.inj (by omega))
        have HP2 := Lib.hid (show pieces c s = ps ++ pcs c ((s.drop j).take (k + 1 - j)) (s.drop (k + 1)) by
          have hx : (b == c) = false := by simpa using hbc
          have ht : (s.drop j).take (k + 1 - j) = y ++ [b] := by
            rw [HY.out, show k + 1 - j = (k - j) + 1 by omega, List.take_add_one, List.getElem?_drop, show j + (k - j) = k by omega, List.getElem?_eq_getElem hks, hb]; rfl
          rw [HP.out, HD.out, ht]
          simp [pcs, hx])
        clear hy hb
        go_wp2
        go_roundw
        case rel => exact ⟨k + 1, j, ps, by omega, by omega, by go_num, rfl, HO.out, by omega, HP2.out, HB.out⟩
        case measure => first | (simp [intOf]; done) | (simp [intOf]; omega)
    · have hke : k = s.length := by omega
      subst hke
      obtain ⟨y, hy⟩ : ∃ y, y = (s.drop j).take (s.length - j) := ⟨_, rfl⟩
      have hcut : (bs s).extract j (bs s).size = bs y := by rw [bs_size, bs_cut s j s.length hj, hy]
      have HP2 := Lib.hid (show pieces c s = ps ++ [y] by
        rw [HP.out, ← hy, List.drop_of_length_le (Nat.le_refl _)]; rfl)
      have B1 := Lib.hid (newB HB.out (.cells #[.string (bs y)] 9))
      have O1 := Lib.hid (HO.out.alloc (.cells #[.string (bs y)] 9))
      clear hy
      go_wp2_with (at_builtin; refine wpList_app205 rfl _ _ rfl w.heap.size u5 ps rfl O1.out (by omega) wr.heap.size y rfl (Has.new wr 9 _) B1.out.size ?_; intro v3 w3 ho3 hb3 _; have HO3 := Lib.hid ho3; have HB3 := Lib.hid (B1.out.trans hb3); clear ho3 hb3)
      obtain ⟨A, cap, rfl, hsl⟩ := owns_str HO3.out
      refine bodyPost_ret (results_tmp rfl _ _ _) rfl ⟨A, cap, ?_, ?_, HB3.out⟩
      · rw [HP2.out]; rfl
      · rw [HP2.out]; exact hsl
end Go.Proofs
namespace Go.Proofs
open Go.RowKit Go.Shelf Gas
attribute [local go_sem ↓] Go.wp_at_zero Go.wp_at_succ

/-- The last digit of a number. -/
def dgt (m : Nat) : UInt8 := UInt8.ofNat (48 + m % 10)
theorem dec_split (m : Nat) : Lib.decDigits m = (if m < 10 then [] else Lib.decDigits (m / 10)) ++ [dgt m] := by
  unfold dgt
  rw [Lib.decDigits]
  by_cases h : m < 10
  · rw [dif_pos h, if_pos h, Nat.mod_eq_of_lt h]; rfl
  · rw [dif_neg h, if_neg h]
theorem conv1 (m : Nat) (W : World) : (convert 74 9 (.slice (some ⟨W.heap.size, 0, none⟩) 1 1)).run Tryz.prog (W.alloc (.cells #[.int .u8 (48 + (m : Int) % 10)] 5)) = .ok (.string (bs [dgt m])) (W.alloc (.cells #[.int .u8 (48 + (m : Int) % 10)] 5)) := by
  have := run_convert_bytes_back (P := Tryz.prog) (W.alloc (.cells #[.int .u8 (48 + (m : Int) % 10)] 5)) 74 9 5 ⟨W.heap.size, 0, none⟩ 1 [UInt8.ofNat (48 + m % 10)] Tryz.underlying74 (by kernel_rfl) (by kernel_rfl) (fun j hj => by
    have hj0 : j = 0 := by simpa using hj
    subst hj0
    have hc := (Has.new W 5 #[.int .u8 (48 + (m : Int) % 10)]).cell 0
    have ha : (⟨W.heap.size, 0, none⟩ : Addr).add 0 = ⟨W.heap.size, 0, none⟩ := by unfold Addr.add; split <;> simp_all
    rw [ha, hc]
    simp
    omega)
  exact this
theorem bs_two (x : UInt8) (l : List UInt8) : bs [x] ++ bs l = bs (x :: l) := bs_app [x] l

set_option maxHeartbeats 2000000 in
set_option maxRecDepth 20000 in
/-- The specification's Decimal. -/
theorem decimal_c (n : Nat) (hn : n ≤ 1000000) (w : World) : Calls Tryz.prog 83 #[.int .i64 n] w fun e w' => e = .returned (.string (bs (Lib.itoa n))) ∧ Below w.heap.size w w' := by
  have hcv := conv1 n
  have HE := Lib.hid (show Lib.itoa n = Lib.decDigits n by rw [Lib.itoa, if_neg (by omega)]; rfl)
  have HD := Lib.hid (dec_split n)
  go_enter Tryz.func83, Tryz.ntmps83
  go_wp2
  have B0 := Lib.hid (newB (Below.refl w.heap.size w) (.cells #[.int .u8 (48 + (n : Int) % 10)] 5))
  generalize w.alloc (.cells #[.int .u8 (48 + (n : Int) % 10)] 5) = w1 at *
  clear hcv
  go_loopw [0, 3] (fun v u wr => ∃ (m : Nat) (tl : List UInt8), v = .int .i64 m ∧ u = .string (bs tl) ∧ Lib.decDigits n = (if m < 10 then [] else Lib.decDigits (m / 10)) ++ tl ∧ m ≤ 1000000 ∧ tl.length + m ≤ 1000001 ∧ Below w.heap.size w wr) (fun v _ _ => (intOf v).toNat)
  case atStart => exact ⟨n, _, rfl, rfl, HD.out, hn, by simp; omega, B0.out⟩
  case round =>
    obtain ⟨m, tl, rfl, rfl, hd, hm, hl, hB⟩ := hrel
    have HB := Lib.hid hB; have HDD := Lib.hid hd
    clear hB hd
    by_cases hm10 : m < 10
    · have hlt : ¬ (m : Int) ≥ 10 := by omega
      go_wp2
      refine bodyPost_ret (results_tmp rfl _ _ _) rfl ⟨?_, HB.out⟩
      rw [HE.out, HDD.out, if_pos hm10]; rfl
    · have hge : (m : Int) ≥ 10 := by omega
      have hcv : ∀ W : World, (convert 74 9 (.slice (some ⟨W.heap.size, 0, none⟩) 1 1)).run Tryz.prog (W.alloc (.cells #[.int .u8 (48 + (m : Int) / 10 % 10)] 5)) = .ok (.string (bs [dgt (m / 10)])) (W.alloc (.cells #[.int .u8 (48 + (m : Int) / 10 % 10)] 5)) := fun W => by
        have := conv1 (m / 10) W
        push_cast at this
        exact this
      have z1 : (bs [dgt (m / 10)]).size ≤ 10 := by rw [bs_size]; simp
      have z2 : (bs tl).size ≤ 2000000 := by rw [bs_size]; omega
      have htl := bs_two (dgt (m / 10)) tl
      have HD2 := Lib.hid (show Lib.decDigits n = (if m / 10 < 10 then [] else Lib.decDigits (m / 10 / 10)) ++ (dgt (m / 10) :: tl) by
        rw [HDD.out, if_neg hm10, dec_split (m / 10), List.append_assoc]; rfl)
      have hq : Int.tdiv (m : Int) 10 = ((m / 10 : Nat) : Int) := by rw [Int.tdiv_eq_ediv_of_nonneg (by omega)]; omega
      go_wp2
      go_roundw
      case rel => exact ⟨m / 10, dgt (m / 10) :: tl, by simp, rfl, HD2.out, by omega, by simp; omega, newB HB.out _⟩
      case measure => simp [intOf]; omega
end Go.Proofs
namespace Go.Proofs
open Go.RowKit Go.Shelf Gas
attribute [local go_sem ↓] Go.wp_at_zero Go.wp_at_succ

/-- Whether a word is how a number is written. -/
def goodW (l : List UInt8) : Bool := (decide (l ≠ []) && wordB l) && decide (Lib.itoa (numV l) = l)
def numR (l : List UInt8) : Int := if goodW l then numV l else -1

set_option maxHeartbeats 2000000 in
set_option maxRecDepth 20000 in
/-- The specification's number. -/
theorem refNumber_c (l : List UInt8) (hs : l.length ≤ 1000) (w : World) : Calls Tryz.prog 85 #[.string (bs l)] w fun e w' => e = .returned (.int .i64 (numR l)) ∧ Below w.heap.size w w' := by
  have hsz : ((bs l).size : Int) = l.length := by rw [bs_size]
  have hsz2 : (bs l).size = l.length := bs_size l
  by_cases h0 : l = []
  · have HE := Lib.hid (show numR l = -1 by simp [numR, goodW, h0])
    rw [HE.out]
    clear HE
    subst h0
    go_enter Tryz.func85, Tryz.ntmps85
    go_wp2
    exact bodyPost_ret (results_tmp rfl _ _ _) rfl ⟨rfl, Below.refl _ _⟩
  · have hl0 : l.length ≠ 0 := fun e => h0 (List.eq_nil_of_length_eq_zero e)
    have n0 : ((l.length : Int) == 0) = false := by rw [beq_eq_false_iff_ne]; omega
    by_cases h3 : l.length ≤ 3
    · have n3 : ¬ (l.length : Int) > 3 := by omega
      cases hd : l.all digB
      · obtain ⟨j, hj, hbd, hgd⟩ := first_bad l hd
        have HE := Lib.hid (show numR l = -1 by simp [numR, goodW, wordB, hd])
        rw [HE.out]
        have HA := Lib.hid hgd; have HD := Lib.hid hbd
        clear HE hd hgd hbd
        go_enter Tryz.func85, Tryz.ntmps85
        go_wp2
        go_loopw [3, 4] (fun v i wr => ∃ k : Nat, k ≤ j ∧ i = .int .i64 k ∧ v = .int .i64 (numV (l.take k)) ∧ wr = w) (fun _ i _ => l.length - (intOf i).toNat)
        case atStart => exact ⟨0, by omega, rfl, rfl, rfl⟩
        case round =>
          obtain ⟨k, hk, rfl, rfl, rfl⟩ := hrel
          have hkn : k < l.length := by omega
          have hki : k < (bs l).size := by rw [bs_size]; exact hkn
          have hg := bs_get l k hki
          by_cases hkj : k < j
          · have hb : digB (l[k]'hkn) = true := by
              have := List.all_eq_true.1 HA.out ((l.take j)[k]'(by simp; omega)) (List.getElem_mem _)
              simpa using this
            have HT := Lib.hid (List.take_append_getElem hkn)
            have hbd := numV_bd (l := l.take k) (by
              simp only [wordB, Bool.and_eq_true, decide_eq_true_eq]
              refine ⟨by simp; omega, List.all_eq_true.2 fun x hx => List.all_eq_true.1 HA.out x ?_⟩
              have : l.take k = (l.take j).take k := by rw [List.take_take, Nat.min_eq_left (by omega)]
              rw [this] at hx
              exact List.mem_of_mem_take hx)
            simp only [digB, decide_eq_true_eq] at hb
            generalize l[k]'hkn = b at *
            have HN := Lib.hid (show numV (l.take (k + 1)) = 10 * numV (l.take k) + ((b.toNat : Int) - 48) by rw [← HT.out, numV_snoc])
            generalize numV (l.take k) = v at *
            have v1 : IntKind.u8.wrap ((b.toNat : Int) - 48) = (b.toNat : Int) - 48 := by rw [IntKind.wrap_u8]; omega
            have v2 : IntKind.i64.wrap ((b.toNat : Int) - 48) = (b.toNat : Int) - 48 := wI (by omega) (by omega)
            have v3 : IntKind.i64.wrap (10 * v) = 10 * v := wI (by omega) (by omega)
            have v4 : IntKind.i64.wrap (10 * v + ((b.toNat : Int) - 48)) = 10 * v + ((b.toNat : Int) - 48) := wI (by omega) (by omega)
            have n1 : ¬ (b.toNat : Int) < 48 := by omega
            have n2 : ¬ (b.toNat : Int) > 57 := by omega
            go_wp2
            go_roundw
            case rel => exact ⟨k + 1, by omega, by go_num, by rw [HN.out], trivial⟩
            case measure => first | (simp [intOf]; done) | (simp [intOf]; omega)
          · have hkj2 : k = j := by omega
            subst hkj2
            have hb := HD.out
            simp only [digB, decide_eq_false_iff_not] at hb
            generalize l[k]'hkn = b at *
            by_cases hb1 : b.toNat < 48
            · have n1 : (b.toNat : Int) < 48 := by omega
              go_wp2
              exact bodyPost_ret (results_tmp rfl _ _ _) rfl ⟨rfl, Below.refl _ _⟩
            · have n1 : ¬ (b.toNat : Int) < 48 := by omega
              have n2 : (b.toNat : Int) > 57 := by omega
              go_wp2
              exact bodyPost_ret (results_tmp rfl _ _ _) rfl ⟨rfl, Below.refl _ _⟩
      · have hw : wordB l = true := by simp [wordB, h3, hd]
        have hvb := numV_bd hw
        obtain ⟨vn, hvn⟩ : ∃ vn : Nat, numV l = vn := ⟨(numV l).toNat, by omega⟩
        have HDc := Lib.hid fun (W : World) => decimal_c vn (by omega) W
        rw [← hvn] at HDc
        clear hvn
        have HA := Lib.hid hd
        have HE := Lib.hid (show numR l = if Lib.itoa (numV l) = l then numV l else -1 by simp [numR, goodW, hw, h0])
        clear hd hw hvb
        go_enter Tryz.func85, Tryz.ntmps85
        go_wp2
        go_loopw [3, 4] (fun v i wr => ∃ k : Nat, k ≤ l.length ∧ i = .int .i64 k ∧ v = .int .i64 (numV (l.take k)) ∧ wr = w) (fun _ i _ => l.length - (intOf i).toNat)
        case atStart => exact ⟨0, by omega, rfl, rfl, rfl⟩
        case round =>
          obtain ⟨k, hk, rfl, rfl, rfl⟩ := hrel
          by_cases hkn : k < l.length
          · have hki : k < (bs l).size := by rw [bs_size]; exact hkn
            have hg := bs_get l k hki
            have hb := List.all_eq_true.1 HA.out _ (List.getElem_mem hkn)
            have HT := Lib.hid (List.take_append_getElem hkn)
            have hbd := numV_bd (l := l.take k) (by
              simp only [wordB, Bool.and_eq_true, decide_eq_true_eq]
              exact ⟨by simp; omega, List.all_eq_true.2 fun x hx => List.all_eq_true.1 HA.out x (List.mem_of_mem_take hx)⟩)
            simp only [digB, decide_eq_true_eq] at hb
            generalize l[k]'hkn = b at *
            have HN := Lib.hid (show numV (l.take (k + 1)) = 10 * numV (l.take k) + ((b.toNat : Int) - 48) by rw [← HT.out, numV_snoc])
            generalize numV (l.take k) = v at *
            have v1 : IntKind.u8.wrap ((b.toNat : Int) - 48) = (b.toNat : Int) - 48 := by rw [IntKind.wrap_u8]; omega
            have v2 : IntKind.i64.wrap ((b.toNat : Int) - 48) = (b.toNat : Int) - 48 := wI (by omega) (by omega)
            have v3 : IntKind.i64.wrap (10 * v) = 10 * v := wI (by omega) (by omega)
            have v4 : IntKind.i64.wrap (10 * v + ((b.toNat : Int) - 48)) = 10 * v + ((b.toNat : Int) - 48) := wI (by omega) (by omega)
            have n1 : ¬ (b.toNat : Int) < 48 := by omega
            have n2 : ¬ (b.toNat : Int) > 57 := by omega
            go_wp2
            go_roundw
            case rel => exact ⟨k + 1, by omega, by go_num, by rw [HN.out], trivial⟩
            case measure => first | (simp [intOf]; done) | (simp [intOf]; omega)
          · have hke : k = l.length := by omega
            subst hke
            rw [List.take_of_length_le (Nat.le_refl _)]
            by_cases hit : Lib.itoa (numV l) = l
            · have HE2 := Lib.hid (show numR l = numV l by rw [HE.out, if_pos hit])
              rw [hit] at HDc
              clear hit HE
              generalize numV l = v at *
              go_wp2_with (go_at_call 83; refine (HDc.out _).mono ?_; rintro e w1 ⟨rfl, hb⟩; have HB := Lib.hid hb; clear hb)
              exact bodyPost_ret (results_tmp rfl _ _ _) rfl ⟨by rw [HE2.out]; rfl, HB.out⟩
            · have HE2 := Lib.hid (show numR l = -1 by rw [HE.out, if_neg hit])
              have hne : ((bs (Lib.itoa (numV l))).toList == (bs l).toList) = false := by
                rw [beq_eq_false_iff_ne, ByteArray.toList_eq, ByteArray.toList_eq, bs_list, bs_list]; exact hit
              clear hit HE
              generalize numV l = v at *
              generalize bs (Lib.itoa v) = bi at *
              go_wp2_with (go_at_call 83; refine (HDc.out _).mono ?_; rintro e w1 ⟨rfl, hb⟩; have HB := Lib.hid hb; clear hb)
              exact bodyPost_ret (results_tmp rfl _ _ _) rfl ⟨by rw [HE2.out]; rfl, HB.out⟩
    · have n3 : (l.length : Int) > 3 := by omega
      have HE := Lib.hid (show numR l = -1 by simp [numR, goodW, wordB, h3])
      rw [HE.out]
      clear HE
      go_enter Tryz.func85, Tryz.ntmps85
      go_wp2
      exact bodyPost_ret (results_tmp rfl _ _ _) rfl ⟨rfl, Below.refl _ _⟩
end Go.Proofs
namespace Go.Proofs
open Go.RowKit Go.Shelf Gas
attribute [local go_sem ↓] Go.wp_at_zero Go.wp_at_succ

set_option maxHeartbeats 1000000 in
theorem sameDives_c (A B : Option Addr) (n c d : Nat) (xs : List St) (hn : n ≤ 1000000) (w : World) (hA : SlOf St.cs 4 w A n xs) (hB : SlOf St.cs 4 w B n xs) : Calls Tryz.prog 37 #[.slice A n c, .slice B n d] w fun e w' => e = .returned (.bool true) ∧ Below w.heap.size w w' := by
  have HA := Lib.hid hA; have HB := Lib.hid hB; have HN := Lib.hid hA.1
  clear hA hB
  go_enter Tryz.func37, Tryz.ntmps37
  go_wp2
  go_loopw [5] (fun v wr => ∃ k : Nat, k ≤ n ∧ v = .int .i64 k ∧ Below w.heap.size w wr) (fun v _ => n - (intOf v).toNat)
  case atStart => exact ⟨0, by omega, rfl, Below.refl _ _⟩
  case round =>
    obtain ⟨k, hk, rfl, hb⟩ := hrel
    have HBw := Lib.hid hb
    clear hb
    by_cases hkn : k < n
    · have hkl : k < xs.length := by rw [HN.out]; exact hkn
      have hx := List.getElem?_eq_getElem hkl
      obtain ⟨x, hxx⟩ : ∃ x, x = xs[k] := ⟨_, rfl⟩
      rw [← hxx] at hx
      obtain ⟨a, oa, ha⟩ := HA.out.addr (by omega)
      obtain ⟨b, ob, hb⟩ := HB.out.addr (by omega)
      subst ha; subst hb
      obtain ⟨x0, x1, x2, x3⟩ := x
      have CA := Lib.hid fun (w' : World) (hb : Below wr.heap.size wr w') => (show w'.cell? ⟨a, oa + k * 4, none⟩ = some (.int .i64 x0) ∧ w'.cell? ⟨a, oa + k * 4 + 1, none⟩ = some (.int .i64 x1) ∧ w'.cell? ⟨a, oa + k * 4 + 2, none⟩ = some (.int .i64 x2) ∧ w'.cell? ⟨a, oa + k * 4 + 3, none⟩ = some (.int .i64 x3) from ⟨((HA.out.keep (nextB HBw.out hb)).range St.cs_len hx) 0 _ rfl, ((HA.out.keep (nextB HBw.out hb)).range St.cs_len hx) 1 _ rfl, ((HA.out.keep (nextB HBw.out hb)).range St.cs_len hx) 2 _ rfl, ((HA.out.keep (nextB HBw.out hb)).range St.cs_len hx) 3 _ rfl⟩)
      have CB := Lib.hid fun (w' : World) (hb : Below wr.heap.size wr w') => (show w'.cell? ⟨b, ob + k * 4, none⟩ = some (.int .i64 x0) ∧ w'.cell? ⟨b, ob + k * 4 + 1, none⟩ = some (.int .i64 x1) ∧ w'.cell? ⟨b, ob + k * 4 + 2, none⟩ = some (.int .i64 x2) ∧ w'.cell? ⟨b, ob + k * 4 + 3, none⟩ = some (.int .i64 x3) from ⟨((HB.out.keep (nextB HBw.out hb)).range St.cs_len hx) 0 _ rfl, ((HB.out.keep (nextB HBw.out hb)).range St.cs_len hx) 1 _ rfl, ((HB.out.keep (nextB HBw.out hb)).range St.cs_len hx) 2 _ rfl, ((HB.out.keep (nextB HBw.out hb)).range St.cs_len hx) 3 _ rfl⟩)
      clear hx hxx
      go_wp2
      refine wp_free 9 (by kernel_rfl) (by kernel_rfl) (by kernel_rfl) (by decide) ?_
      intro K hK
      repeat (apply Obl.val (by decide) rfl; (intro w' hb; obtain ⟨p1, p2, p3, p4⟩ := CA.out w' hb; obtain ⟨q1, q2, q3, q4⟩ := CB.out w' hb; go_simp; rfl))
      apply Obl.nil
      apply hK
      intro w2 hb
      simp only [Act.put, List.setIfInBounds_toArray, List.set_cons_zero, List.set_cons_succ, List.drop_succ_cons, List.drop_zero]
      clear hK K
      have HB2 := Lib.hid (nextB HBw.out hb)
      clear hb
      go_wp2
      go_roundw
      case rel => exact ⟨k + 1, by omega, by go_num, HB2.out⟩
      case measure => simp [intOf]; omega
    · go_wp2
      exact bodyPost_ret (results_tmp rfl _ _ _) rfl ⟨rfl, HBw.out⟩

/-- What stands behind the word of a line. -/
def tailW (ns : List Int) : List UInt8 := (ns.map fun x => 32 :: Lib.itoa x).flatten
theorem join_tail (word : List UInt8) (ns : List Int) : Lib.join (word :: ns.map Lib.itoa) [32] = word ++ tailW ns := by
  rw [Lib.join_cons, Lib.joinTail, List.map_map]; rfl
theorem wrL_tail (word : List UInt8) (ns : List Int) : wrL word ns = word ++ tailW ns ++ [10] := by
  unfold wrL; rw [join_tail]
theorem tailW_snoc (ns : List Int) (x : Int) : tailW (ns ++ [x]) = tailW ns ++ (32 :: Lib.itoa x) := by simp [tailW]
theorem tailW_len : ∀ (ns : List Int), (∀ x ∈ ns, 0 ≤ x ∧ x ≤ 10000) → (tailW ns).length ≤ 6 * ns.length
  | [], _ => by simp [tailW]
  | x :: r, h => by
    have h1 := itoa_len (h x (by simp))
    have h2 := tailW_len r (fun y hy => h y (by simp [hy]))
    simp only [tailW, List.map_cons, List.flatten_cons, List.length_append, List.length_cons] at h2 ⊢
    omega
end Go.Proofs
namespace Go.Proofs
open Go.RowKit Go.Shelf Gas
attribute [local go_sem ↓] Go.wp_at_zero Go.wp_at_succ

theorem bs_lit2 (a L : List UInt8) : (⟨a.toArray⟩ : ByteArray) ++ bs L = bs (a ++ L) := bs_app a L
theorem row_term (x k m : Int) : x * (k + 2) * (m + 1) = (k + 2) * (m + 1) * x := by
  rw [Int.mul_assoc, Int.mul_comm]

theorem chk_step2 (T R k m x : Int) (hT : 0 ≤ T ∧ T ≤ 100000000000000000) (hR : 0 ≤ R ∧ R ≤ 100000000000000000) (hk : 0 ≤ k ∧ k ≤ 999) (hm : 0 ≤ m ∧ m ≤ 1000) (hx : 0 ≤ x ∧ x ≤ 10000) :
    wrap64 (T + R + wrap64 (wrap64 (x * (k + 2)) * (m + 1))) = T + (R + (k + 2) * (0 + m + 1) * x) := by
  have h := term_bd (i := k + 2) (k := m + 1) (x := x) (by omega) (by omega) hx
  have h0 := row_term x k m
  have h1 : 0 ≤ x * (k + 2) := Int.mul_nonneg hx.1 (by omega)
  have h2 : x * (k + 2) ≤ 10000 * 1001 := Int.mul_le_mul hx.2 (by omega) (by omega) (by omega)
  rw [w64 (x := x * (k + 2)) (by omega) (by omega), h0, w64 (x := (k + 2) * (m + 1) * x) (by omega) (by omega), w64 (by omega) (by omega)]
  rw [show (0 + m + 1 : Int) = m + 1 by omega]; omega

set_option maxHeartbeats 2000000 in
set_option maxRecDepth 20000 in
/-- The specification's Print. -/
theorem refPrint_c (A : Option Addr) (n c : Nat) (dive : List St) (hn : n ≤ 300) (w : World) (hd : SlOf St.cs 4 w A n dive) (hv : ∀ s ∈ dive, stNum s) :
    Calls Tryz.prog 36 #[.slice A n c] w fun e w' => e = .returned (.string (bs (slipL dive))) ∧ Below w.heap.size w w' := by
  have HD := Lib.hid hd; have HN := Lib.hid hd.1
  have hok := rowsOf_ok (by rw [hd.1]; exact hn) hv
  have hrl : (rowsOf dive).length = n + 1 := by simp [rowsOf, hd.1]
  have HOK := Lib.hid hok; have HRL := Lib.hid hrl
  have HDc := Lib.hid fun (m : Nat) (hm : m ≤ 1000000) (W : World) => decimal_c m hm W
  have H0 := Lib.hid (show linesL 0 ((rowsOf dive).take (0 + 1)) = ([100, 105, 118, 101, 32] ++ Lib.itoa n) ++ [10] by
    simp [rowsOf, linesL, wrL_tail, wordK, diveW, tailW, hd.1])
  have T0 := Lib.hid (show totS 0 ((rowsOf dive).take (0 + 1)) = n by simp [rowsOf, totS, rowS, hd.1])
  have hil := itoa_len (x := (n : Int)) (by omega)
  have e1 : (⟨#[100, 105, 118, 101, 32]⟩ : ByteArray) ++ bs (Lib.itoa n) = bs ([100, 105, 118, 101, 32] ++ Lib.itoa n) := bs_lit2 [100, 105, 118, 101, 32] _
  have e2 : bs ([100, 105, 118, 101, 32] ++ Lib.itoa n) ++ (⟨#[10]⟩ : ByteArray) = bs (([100, 105, 118, 101, 32] ++ Lib.itoa n) ++ [10]) := bs_lit _ [10]
  rw [← H0.out] at e2
  have y1 : (bs (Lib.itoa n)).size ≤ 100 := by rw [bs_size]; omega
  have y2 : (bs ([100, 105, 118, 101, 32] ++ Lib.itoa n)).size ≤ 100 := by rw [bs_size]; simp; omega
  generalize hq : ([100, 105, 118, 101, 32] ++ Lib.itoa n : List UInt8) = q1 at *
  clear hq hd hv hok hrl H0 hil
  have HDn := Lib.hid (HDc.out n (by omega))
  generalize Lib.itoa n = q0 at *
  go_enter Tryz.func36, Tryz.ntmps36
  go_wp2_with (go_at_call 83; refine (HDn.out _).mono ?_; rintro e w1 ⟨rfl, hb⟩; have B1 := Lib.hid hb; clear hb)
  clear e1 e2 y1 y2 HDn
  go_loopw [3, 4, 5] (fun v u i wr => ∃ k : Nat, k ≤ n ∧ i = .int .i64 k ∧ v = .string (bs (linesL 0 ((rowsOf dive).take (k + 1)))) ∧ u = .int .i64 (totS 0 ((rowsOf dive).take (k + 1))) ∧ Below w.heap.size w wr) (fun _ _ i _ => n - (intOf i).toNat)
  case atStart => exact ⟨0, by omega, rfl, rfl, by rw [T0.out], B1.out⟩
  case round =>
    obtain ⟨k, hk, rfl, rfl, rfl, hB⟩ := hrel
    have HB := Lib.hid hB
    clear hB
    have hlk : ((rowsOf dive).take (k + 1)).length = k + 1 := by simp [HRL.out]; omega
    have hll := linesL_len ((rowsOf dive).take (k + 1)) 0 (fun r hr => HOK.out r (List.mem_of_mem_take hr))
    have htb := totS_bd ((rowsOf dive).take (k + 1)) 0 (by omega) (by rw [hlk]; push_cast; omega) (fun r hr => ⟨(HOK.out r (List.mem_of_mem_take hr)).len, (HOK.out r (List.mem_of_mem_take hr)).2⟩)
    rw [hlk] at hll htb
    by_cases hkn : k < n
    · have hkl : k < dive.length := by rw [HN.out]; exact hkn
      obtain ⟨b, o, he⟩ := HD.out.addr (by omega)
      have hx := List.getElem?_eq_getElem hkl
      obtain ⟨x, hxx⟩ : ∃ x, x = dive[k] := ⟨_, rfl⟩
      rw [← hxx] at hx
      subst he
      have hgr : (rowsOf dive)[k + 1]? = some [x.dl, x.dh, x.ml, x.mh] := by simp [rowsOf, hx]
      have HTs := Lib.hid (show (rowsOf dive).take (k + 1 + 1) = (rowsOf dive).take (k + 1) ++ [[x.dl, x.dh, x.ml, x.mh]] by rw [List.take_add_one, hgr]; rfl)
      have hro := HOK.out _ (List.mem_of_getElem? hgr)
      have CS := Lib.hid fun (W : World) (hb : Below wr.heap.size wr W) => ((HD.out.keep (nextB HB.out hb)).range St.cs_len hx)
      clear hx hxx hgr hkl
      obtain ⟨dl, dh, ml, mh⟩ := x
      simp only at HTs hro
      have CD := Lib.hid fun (W : World) (hb : Below wr.heap.size wr W) => (show W.cell? ⟨b, o + k * 4, none⟩ = some (.int .i64 dl) ∧ W.cell? ⟨b, o + k * 4 + 1, none⟩ = some (.int .i64 dh) ∧ W.cell? ⟨b, o + k * 4 + 2, none⟩ = some (.int .i64 ml) ∧ W.cell? ⟨b, o + k * 4 + 2 + 1, none⟩ = some (.int .i64 mh) from ⟨by simpa using CS.out W hb 0 _ rfl, CS.out W hb 1 _ rfl, CS.out W hb 2 _ rfl, CS.out W hb 3 _ rfl⟩)
      have HL2 := Lib.hid (show linesL 0 ((rowsOf dive).take (k + 1 + 1)) = ((linesL 0 ((rowsOf dive).take (k + 1)) ++ stageW) ++ tailW [dl, dh, ml, mh]) ++ [10] by
        rw [HTs.out, linesL_snoc, hlk, wrL_tail]
        have hw : wordK (0 + (k + 1)) = stageW := by unfold wordK; rw [if_neg (by omega)]
        rw [hw]; simp)
      have HT2 := Lib.hid (show totS 0 ((rowsOf dive).take (k + 1 + 1)) = totS 0 ((rowsOf dive).take (k + 1)) + rowS ((k : Int) + 2) 0 [dl, dh, ml, mh] by
        rw [HTs.out, totS_snoc, hlk]; congr 1; congr 1; push_cast; omega)
      clear CS hlk HTs
      generalize linesL 0 ((rowsOf dive).take (k + 1)) = L at *
      generalize totS 0 ((rowsOf dive).take (k + 1)) = T at *
      obtain ⟨y, hy⟩ : ∃ y, y = [dl, dh, ml, mh] := ⟨_, rfl⟩
      rw [← hy] at HL2 HT2 hro
      have hyl : y.length = 4 := by rw [hy]; rfl
      have hcells : (#[.int .i64 dl, .int .i64 dh, .int .i64 ml, .int .i64 mh] : Array Value).toList = flat inC y := by rw [hy]; rfl
      have HY := Lib.hid hyl; have HCe := Lib.hid hcells; have HRo := Lib.hid hro
      clear hy hyl hcells hro
      go_wp2
      refine wp_free 24 (by kernel_rfl) (by kernel_rfl) (by kernel_rfl) (by decide) ?_
      intro K hK
      iterate 24 (apply Obl.val (by decide) (by kernel_rfl); (intro w' hb; obtain ⟨_, _, _, _⟩ := CD.out w' hb; go_simp; try rfl))
      apply Obl.nil
      apply hK
      intro w5 hb
      simp only [Act.put, List.setIfInBounds_toArray, List.set_cons_zero, List.set_cons_succ, List.drop_succ_cons, List.drop_zero]
      clear hK K CD
      have HB5 := Lib.hid (newB (nextB HB.out hb) (.cells #[.int .i64 dl, .int .i64 dh, .int .i64 ml, .int .i64 mh] 3))
      have RY := Lib.hid (show RowOf inC 1 (w5.alloc (.cells #[.int .i64 dl, .int .i64 dh, .int .i64 ml, .int .i64 mh] 3)) w5.heap.size 3 4 y from ⟨_, Has.new w5 3 _, HY.out, fun j u hu => by rw [← HCe.out] at hu; simpa using hu⟩)
      clear hb
      have e1 : bs L ++ (⟨#[115, 116, 97, 103, 101]⟩ : ByteArray) = bs (L ++ stageW) := bs_lit L stageW
      have y1 : (bs L).size ≤ 100000 := by rw [bs_size]; omega
      go_wp2
      clear e1 y1
      generalize (w5.alloc (.cells #[.int .i64 dl, .int .i64 dh, .int .i64 ml, .int .i64 mh] 3)) = W5 at *
      generalize w5.heap.size = g at *
      go_loopw [3, 4, 7] (fun v u i wq => ∃ m : Nat, m ≤ 4 ∧ i = .int .i64 m ∧ v = .string (bs ((L ++ stageW) ++ tailW (y.take m))) ∧ u = .int .i64 (T + rowS ((k : Int) + 2) 0 (y.take m)) ∧ Below W5.heap.size W5 wq) (fun _ _ i _ => 4 - (intOf i).toNat)
      case atStart => exact ⟨0, by omega, rfl, by simp [tailW], by simp [rowS], Below.refl _ _⟩
      case round =>
        obtain ⟨m, hm, rfl, rfl, rfl, hB5⟩ := hrel
        have HBq := Lib.hid hB5
        clear hB5
        by_cases hm4 : m < 4
        · have hml : m < y.length := by rw [HY.out]; exact hm4
          have hx := List.getElem?_eq_getElem hml
          have HJ := Lib.hid (List.take_append_getElem hml)
          have hxe := HRo.out.2 _ (List.getElem_mem hml)
          obtain ⟨x, hxx⟩ : ∃ x, x = y[m] := ⟨_, rfl⟩
          rw [← hxx] at hx HJ hxe
          obtain ⟨X, rfl⟩ := Int.eq_ofNat_of_zero_le hxe.1
          have CX := Lib.hid fun (W : World) (hb : Below W5.heap.size W5 W) => (show W.cell? ⟨g, m, none⟩ = some (.int .i64 X) by simpa using ((RY.out.sl inC_len).keep hb).range inC_len hx 0 _ rfl)
          have hRj := rowS_bd (i := (k : Int) + 2) (by omega) (y.take m) 0 (by omega) (by simp; omega) (fun z hz => HRo.out.2 z (List.mem_of_mem_take hz))
          have hstep := chk_step2 T (rowS ((k : Int) + 2) 0 (y.take m)) k m X ⟨htb.1, by have := htb.2; push_cast at this; omega⟩ ⟨hRj.1, by have := hRj.2; simp at this; omega⟩ (by omega) (by omega) hxe
          have HW := Lib.hid (hstep.trans (show _ = T + rowS ((k : Int) + 2) 0 (y.take (m + 1)) by rw [← HJ.out, rowS_snoc]; congr 3; congr 1; simp [HY.out]; omega))
          have HTl := Lib.hid (show tailW (y.take (m + 1)) = tailW (y.take m) ++ (32 :: Lib.itoa X) by rw [← HJ.out, tailW_snoc])
          have htl := tailW_len (y.take m) (fun z hz => HRo.out.2 z (List.mem_of_mem_take hz))
          have htl2 : (y.take m).length = m := by simp [HY.out]; omega
          have hil := itoa_len hxe
          rw [htl2] at htl
          have HDX := Lib.hid (HDc.out X (by omega))
          clear hRj hstep hx hxx hml HJ htl2
          generalize rowS ((k : Int) + 2) 0 (y.take m) = R at *
          generalize tailW (y.take m) = Q at *
          have e1 : bs ((L ++ stageW) ++ Q) ++ (⟨#[32]⟩ : ByteArray) = bs ((L ++ stageW) ++ Q ++ [32]) := bs_lit _ [32]
          have e2 : bs ((L ++ stageW) ++ Q ++ [32]) ++ bs (Lib.itoa X) = bs ((L ++ stageW) ++ tailW (y.take (m + 1))) := by rw [bs_app, HTl.out]; simp
          have y1 : (bs ((L ++ stageW) ++ Q)).size ≤ 100000 := by rw [bs_size]; simp [stageW]; omega
          have y2 : (bs ((L ++ stageW) ++ Q ++ [32])).size ≤ 100000 := by rw [bs_size]; simp [stageW]; omega
          have y3 : (bs (Lib.itoa X)).size ≤ 100 := by rw [bs_size]; omega
          have hc := CX.out _ HBq.out
          clear HTl hil htl
          obtain ⟨P3, hP3⟩ : ∃ P3, P3 = (L ++ stageW) ++ tailW (y.take (m + 1)) := ⟨_, rfl⟩
          rw [← hP3] at e2
          have HP3 := Lib.hid hP3
          clear hP3
          generalize (L ++ stageW) ++ Q = P at *
          generalize P ++ [32] = P2 at *
          go_wp2_with (go_at_call 83; refine (HDX.out _).mono ?_; rintro e w7 ⟨rfl, hb⟩; have HB7 := Lib.hid (nextB HBq.out hb); have hc7 := CX.out _ HB7.out; clear hb)
          go_roundw
          case rel => exact ⟨m + 1, by omega, by go_num, by rw [← HP3.out], by rw [HW.out], HB7.out⟩
          case measure => simp [intOf]; omega
        · have hme : m = 4 := by omega
          subst hme
          have HE := Lib.hid (show y.take 4 = y from List.take_of_length_le (by rw [HY.out]; exact Nat.le_refl _))
          rw [HE.out, ← HT2.out]
          have e1 : bs ((L ++ stageW) ++ tailW y) ++ (⟨#[10]⟩ : ByteArray) = bs (linesL 0 ((rowsOf dive).take (k + 1 + 1))) := by rw [HL2.out]; exact bs_lit _ [10]
          have htl := tailW_len y (fun z hz => HRo.out.2 z hz)
          rw [HY.out] at htl
          have y1 : (bs ((L ++ stageW) ++ tailW y)).size ≤ 100000 := by rw [bs_size]; simp [stageW]; omega
          have HBw := Lib.hid (nextB HB5.out HBq.out)
          obtain ⟨P2, hP2⟩ : ∃ P2, P2 = linesL 0 ((rowsOf dive).take (k + 1 + 1)) := ⟨_, rfl⟩
          rw [← hP2] at e1
          have HP2 := Lib.hid hP2
          clear hP2
          clear htl
          generalize (L ++ stageW) ++ tailW y = P at *
          go_wp2
          go_roundw
          case rel => exact ⟨k + 1, by omega, by go_num, by rw [← HP2.out], rfl, HBw.out⟩
          case measure => simp [intOf]; omega
    · have hke : k = n := by omega
      subst hke
      rw [show (rowsOf dive).take (k + 1) = rowsOf dive from List.take_of_length_le (by rw [HRL.out]; exact Nat.le_refl _)]
      have htb := totS_bd (rowsOf dive) 0 (by omega) (by rw [HRL.out]; omega) (fun r hr => ⟨(HOK.out r hr).len, (HOK.out r hr).2⟩)
      have hll := linesL_len (rowsOf dive) 0 HOK.out
      rw [HRL.out] at htb hll
      have HE := Lib.hid (show slipL dive = linesL 0 (rowsOf dive) ++ [101, 110, 100] ++ [32] ++ chkL (rowsOf dive) ++ [10] from rfl)
      have HC := Lib.hid (show chkL (rowsOf dive) = Lib.itoa (totS 0 (rowsOf dive) % 97 / 10) ++ Lib.itoa (totS 0 (rowsOf dive) % 97 % 10) from rfl)
      generalize linesL 0 (rowsOf dive) = L at *
      generalize totS 0 (rowsOf dive) = T at *
      obtain ⟨q, hq⟩ : ∃ q : Nat, T % 97 / 10 = q := ⟨(T % 97 / 10).toNat, by omega⟩
      obtain ⟨r, hr⟩ : ∃ r : Nat, T % 97 % 10 = r := ⟨(T % 97 % 10).toNat, by omega⟩
      have t1 : T.tmod 97 = T % 97 := Int.tmod_eq_emod_of_nonneg htb.1
      have t2 : (T % 97).tdiv 10 = q := by rw [Int.tdiv_eq_ediv_of_nonneg (by omega), hq]
      have t3 : (T % 97).tmod 10 = r := by rw [Int.tmod_eq_emod_of_nonneg (by omega), hr]
      have hql := itoa_len (x := (q : Int)) (by omega)
      have hrl := itoa_len (x := (r : Int)) (by omega)
      rw [hq, hr] at HC
      have hq1 : q ≤ 10 := by omega
      have hr1 : r ≤ 10 := by omega
      have HDI := Lib.hid fun (m : Nat) (hm : m ≤ 10) (W : World) => HDc.out m (by omega) W
      clear hq hr HDc HOK HRL HD HN T0 B1
      have e1 : bs L ++ (⟨#[101, 110, 100, 32]⟩ : ByteArray) = bs (L ++ [101, 110, 100, 32]) := bs_lit _ [101, 110, 100, 32]
      have e2 : bs (L ++ [101, 110, 100, 32]) ++ bs (Lib.itoa q) = bs (L ++ [101, 110, 100, 32] ++ Lib.itoa q) := bs_app _ _
      have e3 : bs (L ++ [101, 110, 100, 32] ++ Lib.itoa q) ++ bs (Lib.itoa r) = bs (L ++ [101, 110, 100, 32] ++ Lib.itoa q ++ Lib.itoa r) := bs_app _ _
      have e4 : bs (L ++ [101, 110, 100, 32] ++ Lib.itoa q ++ Lib.itoa r) ++ (⟨#[10]⟩ : ByteArray) = bs (slipL dive) := by
        rw [HE.out, HC.out]; refine (bs_lit _ [10]).trans ?_; simp
      have y1 : (bs L).size ≤ 100000 := by rw [bs_size]; omega
      have y2 : (bs (L ++ [101, 110, 100, 32])).size ≤ 100000 := by rw [bs_size]; simp; omega
      have y3 : (bs (L ++ [101, 110, 100, 32] ++ Lib.itoa q)).size ≤ 100000 := by rw [bs_size]; simp; omega
      have y4 : (bs (L ++ [101, 110, 100, 32] ++ Lib.itoa q ++ Lib.itoa r)).size ≤ 100000 := by rw [bs_size]; simp; omega
      have y5 : (bs (Lib.itoa q)).size ≤ 100 := by rw [bs_size]; omega
      have y6 : (bs (Lib.itoa r)).size ≤ 100 := by rw [bs_size]; omega
      clear hql hrl hll HE HC
      generalize L ++ [101, 110, 100, 32] = P1 at *
      generalize P1 ++ Lib.itoa q = P2 at *
      generalize P2 ++ Lib.itoa r = P3 at *
      rename World => W1
      go_wp2_with (go_at_call 83; refine (HDI.out _ (by assumption) _).mono ?_; rintro e w7 ⟨rfl, hb⟩; replace HB := Lib.hid (nextB HB.out hb); clear hb)
      exact bodyPost_ret (results_tmp rfl _ _ _) rfl ⟨rfl, HB.out⟩
end Go.Proofs
namespace Go.Proofs
open Go.RowKit Go.Shelf Gas
attribute [local go_sem ↓] Go.wp_at_zero Go.wp_at_succ

/-- The stage of a line, by the specification. -/
def goodSt (line : List UInt8) : Option St := match pieces 32 line with
  | [_, a, b, c, d] => if goodW a && goodW b && goodW c && goodW d then some ⟨numV a, numV b, numV c, numV d⟩ else none
  | _ => none
def goodAll : List (List UInt8) → Option (List St)
  | [] => some []
  | l :: r => match goodSt l with | none => none | some s => (goodAll r).map (s :: ·)
def refF (text : List UInt8) : List St × Bool := match goodAll (midL text) with | none => ([], false) | some ss => (ss, decide (slipL ss = text))
theorem goodAll_bad : ∀ (ls : List (List UInt8)) (k : Nat) (l : List UInt8), ls[k]? = some l → goodSt l = none → goodAll ls = none
  | [], k, l, h, _ => by simp at h
  | x :: r, 0, l, h, hb => by simp at h; subst h; simp [goodAll, hb]
  | x :: r, k + 1, l, h, hb => by
    have := goodAll_bad r k l (by simpa using h) hb
    simp only [goodAll, this]; split <;> rfl
theorem goodAll_snoc {l : List UInt8} {s : St} (hs : goodSt l = some s) : ∀ {ls : List (List UInt8)} {t : List St}, goodAll ls = some t → goodAll (ls ++ [l]) = some (t ++ [s])
  | [], t, h => by simp [goodAll] at h; subst h; simp [goodAll, hs]
  | x :: r, t, h => by
    simp only [goodAll] at h
    cases hx : goodSt x with
    | none => rw [hx] at h; cases h
    | some y =>
      rw [hx] at h
      cases hr : goodAll r with
      | none => rw [hr] at h; cases h
      | some t' =>
        rw [hr] at h
        simp only [Option.map_some, Option.some.injEq] at h
        subst h
        simp [goodAll, hx, goodAll_snoc hs hr]
theorem goodW_bd {l : List UInt8} (h : goodW l = true) : 0 ≤ numV l ∧ numV l < 1000 := by
  simp only [goodW, Bool.and_eq_true] at h
  exact numV_bd h.1.2
theorem goodSt_num {l : List UInt8} {s : St} (h : goodSt l = some s) : stNum s := by
  unfold goodSt at h
  split at h
  · rename_i x a b c d hw
    split at h
    · rename_i hb
      simp only [Bool.and_eq_true] at hb
      have h1 := goodW_bd hb.1.1.1; have h2 := goodW_bd hb.1.1.2; have h3 := goodW_bd hb.1.2; have h4 := goodW_bd hb.2
      simp only [Option.some.injEq] at h
      subst h
      exact ⟨by simp only; omega, by simp only; omega, by simp only; omega, by simp only; omega⟩
    · cases h
  · cases h
theorem goodAll_num : ∀ {ls : List (List UInt8)} {t : List St}, goodAll ls = some t → ∀ s ∈ t, stNum s
  | [], t, h => by simp [goodAll] at h; subst h; simp
  | x :: r, t, h => by
    simp only [goodAll] at h
    cases hx : goodSt x with
    | none => rw [hx] at h; cases h
    | some y =>
      rw [hx] at h
      cases hr : goodAll r with
      | none => rw [hr] at h; cases h
      | some t' =>
        rw [hr] at h
        simp only [Option.map_some, Option.some.injEq] at h
        subst h
        intro s hs
        rcases List.mem_cons.1 hs with rfl | hs
        · exact goodSt_num hx
        · exact goodAll_num hr s hs
theorem goodSt_bad {l : List UInt8} (h : (pieces 32 l).length ≠ 5) : goodSt l = none := by
  unfold goodSt
  split
  · rename_i hw; rw [hw] at h; exact absurd rfl h
  · rfl
theorem goodSt_words {l x a b c d : List UInt8} (hp : pieces 32 l = [x, a, b, c, d]) : goodSt l = if goodW a && goodW b && goodW c && goodW d then some ⟨numV a, numV b, numV c, numV d⟩ else none := by
  unfold goodSt; rw [hp]

theorem owns_ints {w : World} {b : Nat} {v : Value} {xs : List Int} (h : w.ownsRow b 3 1 v xs.length (flat inC xs)) : ∃ A c, v = .slice A xs.length c ∧ SlOf inC 1 w A xs.length xs := by
  rcases h.2 with ⟨rfl, h0⟩ | ⟨g, cap, cur, rfl, _, h3, _, _, _, h7⟩
  · exact ⟨none, 0, by rw [h0], ⟨rfl, h.1, fun hp => absurd hp (by omega)⟩⟩
  · refine ⟨some ⟨g, 0, none⟩, cap, rfl, ⟨rfl, h.1, fun _ => ⟨g, 0, rfl, fun j u hu => ?_⟩⟩⟩
    rw [← h7, List.getElem?_take] at hu
    split at hu
    · rw [Nat.zero_add, Has.cell h3 j, ← Array.getElem?_toList]; exact hu
    · cases hu
theorem own_last {w : World} {g o : Nat} {xs : List Int} {y : Int} (h : SlOf inC 1 w (some ⟨g, o, none⟩) (xs ++ [y]).length (xs ++ [y])) : w.cell? ⟨g, o + xs.length, none⟩ = some (.int .i64 y) := by
  have := (h.range inC_len (show (xs ++ [y])[xs.length]? = some y by simp)) 0 _ rfl
  simpa using this

set_option maxHeartbeats 2000000 in
set_option maxRecDepth 20000 in
/-- The specification's Read. -/
theorem refRead_c (text : List UInt8) (hlen : text.length ≤ 300) (w : World) :
    Calls Tryz.prog 38 #[.string (bs text)] w fun e w' => ∃ A c, e = .returned (.tuple #[.slice A (refF text).1.length c, .bool (refF text).2]) ∧ SlOf St.cs 4 w' A (refF text).1.length (refF text).1 ∧ Below w.heap.size w w' := by
  have HSp := Lib.hid (show ∀ W : World, Calls Tryz.prog 84 #[.string (bs text), .int .u8 10] W fun e w' => ∃ A cap, e = .returned (.slice A (pieces 10 text).length cap) ∧ SlOf strC 1 w' A (pieces 10 text).length (pieces 10 text) ∧ Below W.heap.size W w' from fun W => refSplit_c 10 text (by omega) W)
  have hpl := pieces_len 10 text
  have hcb := pieces_bd 10 text
  have HML := Lib.hid (mid_len text)
  have HMG := Lib.hid fun (k : Nat) (h : k + 3 < (pieces 10 text).length) => mid_get h
  have HPL := Lib.hid (pieces_lens (c := 10) text)
  obtain ⟨lines, hls⟩ : ∃ lines, lines = pieces 10 text := ⟨_, rfl⟩
  rw [← hls] at HSp hpl HML HMG HPL
  obtain ⟨m, hm⟩ : ∃ m, m = lines.length := ⟨_, rfl⟩
  rw [← hm] at HSp hpl HML HMG
  have hm2 : 1 ≤ m ∧ m ≤ 301 := by omega
  have HM := Lib.hid hm
  clear hls hm hpl hcb
  obtain ⟨R, hR⟩ : ∃ R, R = refF text := ⟨_, rfl⟩
  rw [← hR]
  have HR := Lib.hid hR
  clear hR
  go_enter Tryz.func38, Tryz.ntmps38
  go_wp2_with (go_at_call 84; refine (HSp.out _).mono ?_; rintro e w1 ⟨A1, cap1, rfl, hsl, hb1⟩; obtain ⟨g, o, rfl⟩ := hsl.addr (by omega); have SL := Lib.hid hsl; have B1 := Lib.hid hb1; clear hsl hb1)
  clear HSp
  go_loopw [5, 6] (fun v i wr => ∃ (k : Nat) (t : List St), (k + 3 ≤ m ∨ k = 0) ∧ i = .int .i64 ((k : Int) + 1) ∧ goodAll ((midL text).take k) = some t ∧ t.length = k ∧ wr.ownsRow w1.heap.size 80 4 v k (flat St.cs t) ∧ Below w1.heap.size w1 wr) (fun _ i _ => m - (intOf i).toNat)
  case atStart => exact ⟨0, [], .inr rfl, rfl, rfl, rfl, World.ownsRow_nil _ _ _ _, Below.refl _ _⟩
  case round =>
    obtain ⟨k, t, hk, rfl, hg, htl, hO, hB⟩ := hrel
    have HO := Lib.hid hO; have HB := Lib.hid hB; have HG := Lib.hid hg; have HTL := Lib.hid htl
    clear hO hB hg htl
    have z0 : IntKind.i64.wrap ((k : Int) + 1 + 2) = (k : Int) + 3 := by rw [show (k : Int) + 1 + 2 = k + 3 by omega]; exact wI (by omega) (by omega)
    by_cases hkm : k + 3 < m
    · have zi : (k : Int) + 3 < (m : Int) := by omega
      have hkl : k + 1 < lines.length := by rw [← HM.out]; omega
      have hx := List.getElem?_eq_getElem hkl
      obtain ⟨l, hxx⟩ : ∃ l, l = lines[k + 1] := ⟨_, rfl⟩
      rw [← hxx] at hx
      have hml : (midL text)[k]? = some l := by rw [HMG.out k hkm, hx]
      have hll : l.length ≤ 300 := by have := HPL.out l (List.mem_of_getElem? hx); omega
      have HMl := Lib.hid hml
      have cl : wr.cell? ⟨g, o + (k + 1), none⟩ = some (.string (bs l)) := by
        have := (((SL.out.keep HB.out).range strC_len hx)) 0 _ rfl
        simpa using this
      have HS2 := Lib.hid (show ∀ W : World, Calls Tryz.prog 84 #[.string (bs l), .int .u8 32] W fun e w' => ∃ A cap, e = .returned (.slice A (pieces 32 l).length cap) ∧ SlOf strC 1 w' A (pieces 32 l).length (pieces 32 l) ∧ Below W.heap.size W w' from fun W => refSplit_c 32 l (by omega) W)
      have hpl := pieces_len 32 l
      have hcb := pieces_bd 32 l
      have HBad := Lib.hid fun (h : goodSt l = none) => (show R = ([], false) by rw [HR.out]; unfold refF; rw [goodAll_bad _ k l HMl.out h])
      clear hx hxx hml
      by_cases hq : (pieces 32 l).length = 5
      · obtain ⟨x, a, b, c, d, hw⟩ := len5 hq
        have HGS := Lib.hid (goodSt_words hw)
        have HPW := Lib.hid (pieces_lens (c := 32) l)
        have HMT := Lib.hid (show ∀ s, goodSt l = some s → goodAll ((midL text).take (k + 1)) = some (t ++ [s]) from fun s hs => by
          rw [List.take_add_one, HMl.out]; exact goodAll_snoc hs HG.out)
        obtain ⟨ws, hws⟩ : ∃ ws, ws = [a, b, c, d] := ⟨_, rfl⟩
        have HW := Lib.hid (show ∀ (j : Nat) y, ws[j]? = some y → [x, a, b, c, d][j + 1]? = some y from fun j y hy => by rw [hws] at hy; exact hy)
        have HWl : Hid (ws.length = 4) := Lib.hid (by rw [hws]; rfl)
        have HWb := Lib.hid (show ∀ (j : Nat) y, ws[j]? = some y → goodW y = false → R = ([], false) from fun j y hy hb => HBad.out (by
          rw [HGS.out, if_neg]
          intro hh
          simp only [Bool.and_eq_true] at hh
          rw [hws] at hy
          match j, hy with
          | 0, hy => simp at hy; subst hy; rw [hh.1.1.1] at hb; cases hb
          | 1, hy => simp at hy; subst hy; rw [hh.1.1.2] at hb; cases hb
          | 2, hy => simp at hy; subst hy; rw [hh.1.2] at hb; cases hb
          | 3, hy => simp at hy; subst hy; rw [hh.2] at hb; cases hb))
        have HWs := Lib.hid hws
        rw [hq] at HS2
        rw [hw] at HS2 HPW
        clear hw hq hws HBad hpl hcb
        go_wp2_with (go_at_call 84; refine (HS2.out _).mono ?_; rintro e w2 ⟨A2, cap2, rfl, hsl2, hb2⟩; obtain ⟨g2, o2, rfl⟩ := hsl2.addr (by omega); have HBo := Lib.hid hb2; have HB2 := Lib.hid (nextB HB.out hb2); have S2 := Lib.hid hsl2; clear hsl2 hb2)
        clear HS2
        go_loopw [8, 9] (fun v i wq => ∃ (j : Nat) (xs : List Int), j ≤ 4 ∧ i = .int .i64 ((j : Int) + 1) ∧ xs = (ws.take j).map numV ∧ xs.length = j ∧ (∀ y ∈ ws.take j, goodW y = true) ∧ wq.ownsRow w2.heap.size 3 1 v xs.length (flat inC xs) ∧ Below w2.heap.size w2 wq) (fun _ i _ => 5 - (intOf i).toNat)
        case atStart => exact ⟨0, [], by omega, rfl, rfl, rfl, by simp, World.ownsRow_nil _ _ _ _, Below.refl _ _⟩
        case round =>
          obtain ⟨j, xs, hj, rfl, hxs, hxl, hgd, hO5, hBq⟩ := hrel
          have HBq := Lib.hid hBq; have HOx := Lib.hid hO5; have HXS := Lib.hid hxs; have HGD := Lib.hid hgd
          subst hxl
          clear hBq hO5 hxs hgd
          by_cases hj4 : xs.length < 4
          · have zj : (xs.length : Int) + 1 < 5 := by omega
            have hjl : xs.length < ws.length := by rw [HWl.out]; exact hj4
            have hx := List.getElem?_eq_getElem hjl
            obtain ⟨y, hyy⟩ : ∃ y, y = ws[xs.length] := ⟨_, rfl⟩
            rw [← hyy] at hx
            have cl : wr.cell? ⟨g2, o2 + (xs.length + 1), none⟩ = some (.string (bs y)) := by
              have := (((S2.out.keep HBq.out).range strC_len (HW.out _ _ hx))) 0 _ rfl
              simpa using this
            have HTk := Lib.hid (show ws.take (xs.length + 1) = ws.take xs.length ++ [y] by rw [List.take_add_one, hx]; rfl)
            have hyl := HPW.out y (List.mem_of_getElem? (HW.out _ _ hx))
            have HNr := Lib.hid fun (W : World) => refNumber_c y (by omega) W
            have HWb2 := Lib.hid fun (h : goodW y = false) => HWb.out _ y hx h
            clear hx hyy hyl hjl
            cases hgy : goodW y with
            | false =>
              obtain rfl := HWb2.out hgy
              have hz : numR y = -1 := by simp [numR, hgy]
              rw [hz] at HNr
              clear hz hgy HWb2 HWb HR HMl HGS HMT HTk
              go_wp2_with (first
                | (go_at_call 85; refine (HNr.out _).mono ?_; rintro e w5 ⟨rfl, hb⟩; have HB5 := Lib.hid (nextB HBq.out hb); have HO5 := Lib.hid (owns_keep HOx.out hb); clear hb)
                | (at_builtin; refine wpList_app37 rfl _ _ rfl w2.heap.size u8 xs rfl (HO5.out.alloc _) (by omega) w5.heap.size (-1) rfl (Has.new w5 3 _) (newB HB5.out _).size ?_; intro v7 w7 ho7 hb7 _; obtain ⟨A3, c3, rfl, hs3⟩ := owns_ints ho7; obtain ⟨g3, o3, rfl⟩ := hs3.addr (by simp); have c3' := own_last hs3; have HB7 := Lib.hid ((newB HB5.out (.cells #[.int .i64 (-1)] 3)).trans hb7); clear ho7 hb7 hs3))
              exact bodyPost_ret (results_tmp2 rfl _ _ _) rfl ⟨none, ⟨0, rfl⟩, SlOf.nil _ _ _, nextB (nextB B1.out HB2.out) HB7.out⟩
            | true =>
              have hz : numR y = numV y := by simp [numR, hgy]
              have hbd := goodW_bd hgy
              rw [hz] at HNr
              have HGY := Lib.hid hgy
              have HXY := Lib.hid (show (ws.take (xs.length + 1)).map numV = xs ++ [numV y] by rw [HTk.out, List.map_append, ← HXS.out]; rfl)
              have HGD2 := Lib.hid (show ∀ z ∈ ws.take (xs.length + 1), goodW z = true from fun z hz => by
                rw [HTk.out] at hz
                rcases List.mem_append.1 hz with h | h
                · exact HGD.out z h
                · rw [List.mem_singleton.1 h]; exact HGY.out)
              clear hz hgy HWb2 HTk
              generalize numV y = z at *
              have nz : ¬ z < 0 := by omega
              go_wp2_with (first
                | (go_at_call 85; refine (HNr.out _).mono ?_; rintro e w5 ⟨rfl, hb⟩; have HB5 := Lib.hid (nextB HBq.out hb); have HO5 := Lib.hid (owns_keep HOx.out hb); clear hb)
                | (at_builtin; refine wpList_app37 rfl _ _ rfl w2.heap.size u8 xs rfl (HO5.out.alloc _) (by omega) w5.heap.size z rfl (Has.new w5 3 _) (newB HB5.out _).size ?_; intro v7 w7 ho7 hb7 _; have HO7 := Lib.hid ho7; obtain ⟨A3, c3, rfl, hs3⟩ := owns_ints ho7; obtain ⟨g3, o3, rfl⟩ := hs3.addr (by simp); have c3' := own_last hs3; have HB7 := Lib.hid ((newB HB5.out (.cells #[.int .i64 z] 3)).trans hb7); clear ho7 hb7 hs3))
              have hl1 : (xs ++ [z]).length = xs.length + 1 := by simp
              rw [hl1] at HO7
              go_roundw
              case rel => exact ⟨xs.length + 1, xs ++ [z], by omega, by go_num, HXY.out.symm, hl1, HGD2.out, by rw [hl1]; exact HO7.out, HB7.out⟩
              case measure => first | (simp [intOf]; done) | (simp [intOf]; omega)
          · have hj44 : xs.length = 4 := by omega
            obtain ⟨A8, c8, rfl, hs8⟩ := owns_ints HOx.out
            obtain ⟨g8, o8, rfl⟩ := hs8.addr (by omega)
            have htw : ws.take xs.length = ws := List.take_of_length_le (by rw [HWl.out]; omega)
            have hxs := HXS.out; have hgd := HGD.out
            rw [htw] at hxs hgd
            rw [HWs.out] at hxs hgd
            have HSt := Lib.hid (show goodSt l = some ⟨numV a, numV b, numV c, numV d⟩ by
              rw [HGS.out, if_pos]; rw [hgd a (by simp), hgd b (by simp), hgd c (by simp), hgd d (by simp)]; rfl)
            have HM2 := Lib.hid (HMT.out _ HSt.out)
            rw [hj44]
            rw [hj44] at hs8
            clear HOx HXS HGD HMT HSt HGS HWs HWb hgd htw hj44 HW HPW HWl hj4
            simp only [List.map_cons, List.map_nil] at hxs
            subst hxs
            generalize numV a = z1 at *
            generalize numV b = z2 at *
            generalize numV c = z3 at *
            generalize numV d = z4 at *
            have CC := Lib.hid fun (W : World) (hb : Below wr.heap.size wr W) => (show W.cell? ⟨g8, o8, none⟩ = some (.int .i64 z1) ∧ W.cell? ⟨g8, o8 + 1, none⟩ = some (.int .i64 z2) ∧ W.cell? ⟨g8, o8 + 2, none⟩ = some (.int .i64 z3) ∧ W.cell? ⟨g8, o8 + 3, none⟩ = some (.int .i64 z4) from
              ⟨by simpa using ((hs8.keep hb).range inC_len (show [z1, z2, z3, z4][0]? = some z1 from rfl)) 0 _ rfl, by simpa using ((hs8.keep hb).range inC_len (show [z1, z2, z3, z4][1]? = some z2 from rfl)) 0 _ rfl, by simpa using ((hs8.keep hb).range inC_len (show [z1, z2, z3, z4][2]? = some z3 from rfl)) 0 _ rfl, by simpa using ((hs8.keep hb).range inC_len (show [z1, z2, z3, z4][3]? = some z4 from rfl)) 0 _ rfl⟩)
            have HBr := Lib.hid (nextB HB2.out HBq.out)
            have HOr := Lib.hid (owns_keep (owns_keep HO.out HBo.out) HBq.out)
            clear hs8
            go_wp2
            generalize ((4 : Nat) : Int) + 1 = four at *
            apply wp_loose 17 [.v _, .v _, .v _, .v _, .v _, .v _, .v _, .v _, .v _, .v _, .v _, .v _, .v _, .v _, .v _, .v _, .r (fun v w' => ∃ B, v = .slice (some ⟨B, 0, none⟩) 1 1 ∧ Has w' B 80 #[.int .i64 z1, .int .i64 z2, .int .i64 z3, .int .i64 z4])] (by kernel_rfl) (by kernel_rfl) (by kernel_rfl) (by decide) rfl
            intro K hK
            iterate 16 (apply OblS.val (by kernel_rfl); (intro w' hb _; obtain ⟨_, _, _, _⟩ := CC.out w' hb; go_simp; try rfl))
            refine OblS.run (by rintro v x y ⟨B, e, h⟩ hb; exact ⟨B, e, h.after hb⟩) (by kernel_rfl) (fun w' hb hH => ?_) ?_
            · exact ⟨.slice (some ⟨w'.heap.size, 0, none⟩) 1 1, w'.alloc (.cells #[.int .i64 z1, .int .i64 z2, .int .i64 z3, .int .i64 z4] 80), (by go_simp; try rfl), ⟨_, rfl, Has.new w' 80 _⟩, newB (Below.refl _ _) _⟩
            intro v16
            apply OblS.nil
            apply hK
            intro w6 hb6 hH
            obtain ⟨B, rfl, hB⟩ := hH _ (List.mem_cons_self ..)
            have HB6 := Lib.hid (nextB HBr.out hb6); have HO6 := Lib.hid (owns_keep HOr.out hb6); have HHB := Lib.hid hB
            clear hH hK K hb6 hB
            simp only [Act.put, List.setIfInBounds_toArray, List.set_cons_zero, List.set_cons_succ, List.drop_succ_cons, List.drop_zero]
            go_wp2_with (at_builtin; refine wpList_app29 rfl _ _ rfl w1.heap.size u5 k t rfl HO6.out B ⟨z1, z2, z3, z4⟩ rfl HHB.out (by omega) HB6.out.size ?_; intro v8 w8 ho8 hb8; have HO8 := Lib.hid ho8; have HB8 := Lib.hid (HB6.out.trans hb8); clear ho8 hb8)
            exact ⟨⟨k + 1, t ++ [⟨z1, z2, z3, z4⟩], by omega, by go_num, HM2.out, by simp [HTL.out], HO8.out, HB8.out⟩, by simp [intOf]; omega⟩
      · obtain rfl := HBad.out (goodSt_bad hq)
        clear HBad HMl HR
        generalize (pieces 32 l).length = q at *
        have zq : ((q : Int) != 5) = true := by rw [bne_iff_ne]; omega
        go_wp2_with (go_at_call 84; refine (HS2.out _).mono ?_; rintro e w2 ⟨A2, cap2, rfl, hsl2, hb2⟩; have HB2 := Lib.hid (nextB HB.out hb2); clear hsl2 hb2)
        exact bodyPost_ret (results_tmp2 rfl _ _ _) rfl ⟨none, ⟨0, rfl⟩, SlOf.nil _ _ _, nextB B1.out HB2.out⟩
    · have hmk : (midL text).take k = midL text := List.take_of_length_le (by rw [HML.out]; omega)
      have hg := HG.out
      rw [hmk] at hg
      have zi : ¬ (k : Int) + 3 < (m : Int) := by omega
      obtain ⟨A', c', rfl, hd', hA', _⟩ := owns_form2 HO.out HTL.out
      have HBw := Lib.hid (nextB B1.out HB.out)
      have HP := Lib.hid (refPrint_c A' k c' t (by omega) wr hd' (goodAll_num hg))
      have HD := Lib.hid hd'
      obtain rfl : t.length = k := HTL.out
      by_cases hst : slipL t = text
      · obtain rfl : R = (t, true) := by rw [HR.out]; unfold refF; rw [hg]; simp [hst]
        have hne : ((bs (slipL t)).toList == (bs text).toList) = true := by rw [hst]; simp
        generalize bs (slipL t) = bsl at *
        clear hg hd' hA' HO HG HMG HPL HML HR hst hmk
        go_wp2_with (go_at_call 36; refine HP.out.mono ?_; rintro e w7 ⟨rfl, hb⟩; have HB7 := Lib.hid (nextB HBw.out hb); have HD7 := Lib.hid (HD.out.keep hb); clear hb)
        exact bodyPost_ret (results_tmp2 rfl _ _ _) rfl ⟨A', ⟨c', rfl⟩, HD7.out, HB7.out⟩
      · obtain rfl : R = (t, false) := by rw [HR.out]; unfold refF; rw [hg]; simp [hst]
        have hne : ((bs (slipL t)).toList == (bs text).toList) = false := by
          rw [beq_eq_false_iff_ne, ByteArray.toList_eq, ByteArray.toList_eq, bs_list, bs_list]; exact hst
        generalize bs (slipL t) = bsl at *
        clear hg hd' hA' HO HG HMG HPL HML HR hst hmk
        go_wp2_with (go_at_call 36; refine HP.out.mono ?_; rintro e w7 ⟨rfl, hb⟩; have HB7 := Lib.hid (nextB HBw.out hb); have HD7 := Lib.hid (HD.out.keep hb); clear hb)
        exact bodyPost_ret (results_tmp2 rfl _ _ _) rfl ⟨A', ⟨c', rfl⟩, HD7.out, HB7.out⟩
end Go.Proofs
namespace Go.Proofs
open Go.RowKit Go.Shelf Gas

/-! The lines of a slip, and its numbers. -/
theorem pieces_sep (c : UInt8) (b : List UInt8) : ∀ (a : List UInt8), c ∉ a → pieces c (a ++ c :: b) = a :: pieces c b
  | [], _ => by simp [pieces]
  | x :: r, h => by
    have hx : (x == c) = false := by rw [beq_eq_false_iff_ne]; rintro rfl; exact h (List.mem_cons_self ..)
    have ih := pieces_sep c b r (fun hm => h (List.mem_cons_of_mem _ hm))
    simp only [List.cons_append, pieces, hx, ih, Bool.false_eq_true, if_false]
theorem pieces_nosep (c : UInt8) : ∀ (a : List UInt8), c ∉ a → pieces c a = [a]
  | [], _ => rfl
  | x :: r, h => by
    have hx : (x == c) = false := by rw [beq_eq_false_iff_ne]; rintro rfl; exact h (List.mem_cons_self ..)
    have ih := pieces_nosep c r (fun hm => h (List.mem_cons_of_mem _ hm))
    simp only [pieces, hx, ih, Bool.false_eq_true, if_false]
theorem dgt_dig (m : Nat) : digB (dgt m) = true ∧ ((dgt m).toNat : Int) - 48 = ((m % 10 : Nat) : Int) := by
  have : (dgt m).toNat = 48 + m % 10 := by unfold dgt; rw [UInt8.toNat_ofNat']; omega
  refine ⟨?_, by omega⟩
  simp only [digB, this, decide_eq_true_eq]; omega
theorem dec_dig (m : Nat) : (Lib.decDigits m).all digB = true ∧ numV (Lib.decDigits m) = m := by
  induction m using Nat.strongRecOn with
  | _ m ih =>
    have hd := dgt_dig m
    rw [dec_split m]
    by_cases h : m < 10
    · rw [if_pos h]
      refine ⟨by simp [hd.1], ?_⟩
      rw [List.nil_append, show [dgt m] = [] ++ [dgt m] from rfl, numV_snoc, hd.2]
      simp [numV]; omega
    · rw [if_neg h]
      obtain ⟨h1, h2⟩ := ih (m / 10) (by omega)
      refine ⟨by simp [h1, hd.1], ?_⟩
      rw [numV_snoc, h2, hd.2]; omega
theorem itoa_nat (m : Nat) : Lib.itoa (m : Int) = Lib.decDigits m := by
  rw [Lib.itoa, if_neg (by omega)]; rfl
theorem itoa_num {x : Int} (h : 0 ≤ x) : numV (Lib.itoa x) = x := by
  obtain ⟨m, rfl⟩ := Int.eq_ofNat_of_zero_le h
  rw [itoa_nat]; exact (dec_dig m).2
theorem itoa_dig {x : Int} (h : 0 ≤ x) : (Lib.itoa x).all digB = true := by
  obtain ⟨m, rfl⟩ := Int.eq_ofNat_of_zero_le h
  rw [itoa_nat]; exact (dec_dig m).1
theorem itoa_len3 {x : Int} (h : 0 ≤ x ∧ x < 1000) : (Lib.itoa x).length ≤ 3 := by
  rw [Lib.itoa, if_neg (by omega)]
  exact decDigits_len 2 x.toNat (by omega)
theorem itoa_ne {x : Int} (h : 0 ≤ x) : Lib.itoa x ≠ [] := by
  obtain ⟨m, rfl⟩ := Int.eq_ofNat_of_zero_le h
  rw [itoa_nat, dec_split]; simp
theorem itoa_good {x : Int} (h : 0 ≤ x ∧ x < 1000) : goodW (Lib.itoa x) = true := by
  simp only [goodW, wordB, Bool.and_eq_true, decide_eq_true_eq]
  exact ⟨⟨itoa_ne h.1, itoa_len3 h, itoa_dig h.1⟩, by rw [itoa_num h.1]⟩
theorem itoa_free {x : Int} (h : 0 ≤ x) {c : UInt8} (hc : digB c = false) : c ∉ Lib.itoa x := by
  intro hm
  have := List.all_eq_true.1 (itoa_dig h) c hm
  rw [hc] at this; cases this

/-- A line of a slip. -/
def lineS (s : St) : List UInt8 := stageW ++ tailW [s.dl, s.dh, s.ml, s.mh]
def stLow (s : St) : Prop := (0 ≤ s.dl ∧ s.dl < 1000) ∧ (0 ≤ s.dh ∧ s.dh < 1000) ∧ (0 ≤ s.ml ∧ s.ml < 1000) ∧ 0 ≤ s.mh ∧ s.mh < 1000
theorem line_words {s : St} (h : stLow s) : pieces 32 (lineS s) = [stageW, Lib.itoa s.dl, Lib.itoa s.dh, Lib.itoa s.ml, Lib.itoa s.mh] := by
  obtain ⟨⟨h1, _⟩, ⟨h2, _⟩, ⟨h3, _⟩, h4, _⟩ := h
  have e : lineS s = stageW ++ 32 :: (Lib.itoa s.dl ++ 32 :: (Lib.itoa s.dh ++ 32 :: (Lib.itoa s.ml ++ 32 :: Lib.itoa s.mh))) := by simp [lineS, tailW]
  rw [e, pieces_sep 32 _ _ (by decide), pieces_sep 32 _ _ (itoa_free h1 (by decide)), pieces_sep 32 _ _ (itoa_free h2 (by decide)), pieces_sep 32 _ _ (itoa_free h3 (by decide)), pieces_nosep 32 _ (itoa_free h4 (by decide))]
theorem line_good {s : St} (h : stLow s) : goodSt (lineS s) = some s := by
  rw [goodSt_words (line_words h)]
  obtain ⟨h1, h2, h3, h4⟩ := h
  rw [itoa_good h1, itoa_good h2, itoa_good h3, itoa_good h4, itoa_num h1.1, itoa_num h2.1, itoa_num h3.1, itoa_num h4.1]
  rfl
theorem tail_free {c : UInt8} (hc : digB c = false) (h32 : c ≠ 32) : ∀ (ns : List Int), (∀ x ∈ ns, 0 ≤ x) → c ∉ tailW ns
  | [], _ => by simp [tailW]
  | x :: r, h => by
    have ih := tail_free hc h32 r (fun y hy => h y (List.mem_cons_of_mem _ hy))
    have h1 := itoa_free (h x (List.mem_cons_self ..)) hc
    simp only [tailW, List.map_cons, List.flatten_cons, List.mem_append, List.mem_cons] at ih ⊢
    rintro ((rfl | hm) | hm)
    · exact h32 rfl
    · exact h1 hm
    · exact ih hm
theorem word_free (k : Nat) : (10 : UInt8) ∉ wordK k := by unfold wordK; split <;> decide
theorem pieces_lines : ∀ (rows : List (List Int)) (k : Nat) (z : List UInt8), (∀ r ∈ rows, ∀ x ∈ r, 0 ≤ x) → pieces 10 (linesL k rows ++ z) = (rows.mapIdx fun j r => wordK (k + j) ++ tailW r) ++ pieces 10 z
  | [], k, z, _ => by simp [linesL]
  | r :: l, k, z, h => by
    have ih := pieces_lines l (k + 1) z (fun y hy => h y (List.mem_cons_of_mem _ hy))
    have hf : (10 : UInt8) ∉ wordK k ++ tailW r := by
      rw [List.mem_append]
      rintro (hm | hm)
      · exact word_free k hm
      · exact tail_free (by decide) (by decide) r (h r (List.mem_cons_self ..)) hm
    have e : linesL k (r :: l) ++ z = (wordK k ++ tailW r) ++ 10 :: (linesL (k + 1) l ++ z) := by simp [linesL, wrL_tail]
    rw [e, pieces_sep 10 _ _ hf, ih, List.mapIdx_cons]
    simp only [List.cons_append, Nat.add_zero]
    congr 2
    apply List.mapIdx_eq_mapIdx_iff.2
    intro i hi
    rw [show k + 1 + i = k + (i + 1) by omega]
def endS (ss : List St) : List UInt8 := [101, 110, 100] ++ [32] ++ chkL (rowsOf ss)
def headS (ss : List St) : List UInt8 := diveW ++ tailW [(ss.length : Int)]
theorem chk_free (rows : List (List Int)) : (10 : UInt8) ∉ chkL rows := by
  unfold chkL
  rw [List.mem_append]
  rintro (hm | hm)
  · exact itoa_free (by omega) (by decide) hm
  · exact itoa_free (by omega) (by decide) hm
theorem slip_pieces {ss : List St} (h : ∀ s ∈ ss, stLow s) : pieces 10 (slipL ss) = headS ss :: (ss.map lineS ++ [endS ss, []]) := by
  have hr : ∀ r ∈ rowsOf ss, ∀ x ∈ r, 0 ≤ x := by
    intro r hr
    simp only [rowsOf, List.mem_cons, List.mem_map] at hr
    rcases hr with rfl | ⟨s, hs, rfl⟩
    · simp
    · obtain ⟨h1, h2, h3, h4⟩ := h s hs
      simp only [List.mem_cons, List.not_mem_nil, or_false]
      rintro x (rfl | rfl | rfl | rfl) <;> omega
  have e : slipL ss = linesL 0 (rowsOf ss) ++ (endS ss ++ 10 :: []) := by simp [slipL, endS]
  rw [e, pieces_lines _ _ _ hr, pieces_sep 10 [] (endS ss) (by
    unfold endS
    rw [List.mem_append]
    rintro (hm | hm)
    · revert hm; decide
    · exact chk_free _ hm)]
  have e2 : ((rowsOf ss).mapIdx fun j r => wordK (0 + j) ++ tailW r) = headS ss :: ss.map lineS := by
    rw [rowsOf, List.mapIdx_cons]
    congr 1
    apply List.ext_getElem
    · simp
    · intro i h1 h2
      simp only [List.getElem_mapIdx, List.getElem_map, lineS]
      congr 1
  rw [e2]; rfl
theorem mid_slip {ss : List St} (h : ∀ s ∈ ss, stLow s) : midL (slipL ss) = ss.map lineS := by
  have e : headS ss :: (ss.map lineS ++ [endS ss, []]) = (headS ss :: ss.map lineS) ++ [endS ss, []] := by simp
  unfold midL
  rw [slip_pieces h, e, List.take_left' (by simp)]
  rfl
theorem goodAll_lines : ∀ {ss : List St}, (∀ s ∈ ss, stLow s) → goodAll (ss.map lineS) = some ss
  | [], _ => rfl
  | s :: r, h => by
    simp only [List.map_cons, goodAll, line_good (h s (List.mem_cons_self ..)), goodAll_lines (fun y hy => h y (List.mem_cons_of_mem _ hy)), Option.map_some]
/-- What the program reads is what the specification reads. -/
theorem goodSt_parse {l : List UInt8} {s : St} (h : goodSt l = some s) : parseSt l = some s ∧ stLow s := by
  unfold goodSt at h
  unfold parseSt
  split at h
  · rename_i x a b c d hw
    split at h
    · rename_i hb
      simp only [Bool.and_eq_true] at hb
      have w1 : ∀ {l : List UInt8}, goodW l = true → wordB l = true := fun {l} hg => by
        simp only [goodW, Bool.and_eq_true] at hg; exact hg.1.2
      simp only [Option.some.injEq] at h
      subst h
      have h1 := goodW_bd hb.1.1.1; have h2 := goodW_bd hb.1.1.2; have h3 := goodW_bd hb.1.2; have h4 := goodW_bd hb.2
      refine ⟨?_, h1, h2, h3, h4⟩
      rw [hw]; simp [w1 hb.1.1.1, w1 hb.1.1.2, w1 hb.1.2, w1 hb.2]
    · cases h
  · cases h
theorem goodAll_parse : ∀ {ls : List (List UInt8)} {t : List St}, goodAll ls = some t → parseAll ls = some t ∧ ∀ s ∈ t, stLow s
  | [], t, h => by simp [goodAll] at h; subst h; simp [parseAll]
  | x :: r, t, h => by
    simp only [goodAll] at h
    cases hx : goodSt x with
    | none => rw [hx] at h; cases h
    | some y =>
      rw [hx] at h
      cases hr : goodAll r with
      | none => rw [hr] at h; cases h
      | some t' =>
        rw [hr] at h
        simp only [Option.map_some, Option.some.injEq] at h
        subst h
        obtain ⟨h1, h2⟩ := goodSt_parse hx
        obtain ⟨h3, h4⟩ := goodAll_parse hr
        refine ⟨by simp [parseAll, h1, h3], fun s hs => ?_⟩
        rcases List.mem_cons.1 hs with rfl | hs
        · exact h2
        · exact h4 s hs
theorem told_slip {ss : List St} (h : ∀ s ∈ ss, stLow s) : toldF (slipL ss) = some ss := by
  unfold toldF
  rw [if_neg (by rw [slip_pieces h]; simp), mid_slip h, (goodAll_parse (goodAll_lines h)).1]
  simp
theorem told_low {text : List UInt8} {ss : List St} (h : toldF text = some ss) : slipL ss = text ∧ ∀ s ∈ ss, stLow s := by
  unfold toldF at h
  split at h
  · cases h
  · split at h
    · cases h
    · rename_i t hp
      split at h
      · rename_i he
        simp only [Option.some.injEq] at h
        subst h
        refine ⟨he, fun s hs => ?_⟩
        obtain ⟨⟨a, b, c, d⟩, e, f, g, i⟩ := parseAll_small hp s hs
        exact ⟨⟨a.1, e⟩, ⟨b.1, f⟩, ⟨c.1, g⟩, d.1, i⟩
      · cases h
theorem ref_slip {ss : List St} (h : ∀ s ∈ ss, stLow s) : refF (slipL ss) = (ss, true) := by
  unfold refF; rw [mid_slip h, goodAll_lines h]; simp
/-- The program's reader and the specification's agree. -/
theorem told_ref (text : List UInt8) : toldF text = if (refF text).2 then some (refF text).1 else none := by
  cases ht : toldF text with
  | some ss =>
    obtain ⟨rfl, h2⟩ := told_low ht
    rw [ref_slip h2]; rfl
  | none =>
    cases hr : refF text with
    | mk x b =>
      cases b with
      | false => rfl
      | true =>
        exfalso
        unfold refF at hr
        split at hr
        · cases hr
        · rename_i ss hg
          simp only [Prod.mk.injEq, decide_eq_true_eq] at hr
          obtain ⟨rfl, rfl⟩ := hr
          rw [told_slip (goodAll_parse hg).2] at ht
          cases ht
end Go.Proofs
namespace Go.Proofs
open Go.RowKit Go.Shelf Gas

theorem tab_keep {P : Program} {w w' : World} {name : String} {k : IntKind} {zs : List Int} (h : Lib.TabIs P w name k zs) (hb : Below w.heap.size w w') : Lib.TabIs P w' name k zs := by
  unfold Lib.TabIs World.var? at *
  cases hg : P.globalNamed name with
  | none => rw [hg] at h; cases h
  | some g =>
    rw [hg] at h
    simp only [Option.bind_some] at h ⊢
    by_cases hl : g < w.heap.size
    · rw [hb.block g hl]; exact h
    · rw [Array.getElem?_eq_none (by omega)] at h; cases h
theorem itoa_tab {w : World} (htab : Lib.TabIs Tryz.prog w "internal/strconv.uint64pow10" .u64 Lib.pow10Tab) (x : Int) (h0 : 0 ≤ x) (h1 : x ≤ 1000) : ItoaOk w x := by
  intro w' hb
  refine (Tryz.strconv_Itoa x (by omega) (by omega) w' (tab_keep htab hb)).mono fun e w2 ⟨he, k, os, hw⟩ => ⟨he, ?_⟩
  rw [hw]
  exact ⟨rfl, rfl, rfl, by simp [Sort.grow], fun j hj => by simp [Sort.grow, Array.getElem?_append, hj]⟩
theorem laid_tail {P : Program} {x : String × DataW Unit} {r : List (String × DataW Unit)} {w : World} (h : laidMet P (x :: r) w) : laidMet P r w := by
  obtain ⟨ps, ⟨g, t, cs, fuel, p, q, h1, h2, h3, h4, h5, rfl⟩, hn, hh⟩ := h
  exact ⟨q, h5, (List.nodup_append.1 hn).2.1, fun b off hm => hh b off (List.mem_append_right _ hm)⟩
theorem tab_of_laid {a b : String × DataW Unit} {rest : List (String × DataW Unit)} {w : World} (h : laidMet Tryz.prog (a :: b :: ("internal/strconv.uint64pow10", Lib.tabData .u64 Lib.pow10Tab) :: rest) w) : Lib.TabIs Tryz.prog w "internal/strconv.uint64pow10" .u64 Lib.pow10Tab := by
  refine Lib.tabIs_of_head (g := 1) (t := 211) (e := 203) (n := 20) (by kernel_rfl) (by kernel_rfl) (by kernel_rfl) (by kernel_rfl) (by kernel_rfl) (by kernel_rfl) (laid_tail (laid_tail h))
end Go.Proofs
namespace Go.Proofs
open Go.RowKit Go.Shelf Gas
attribute [local go_sem ↓] Go.wp_at_zero Go.wp_at_succ

theorem dive_low {dive : List St} (h : diveB dive 0 = true) : ∀ s ∈ dive, stLow s := by
  simp only [diveB, Bool.and_eq_true, decide_eq_true_eq] at h
  intro s hs
  have := List.all_eq_true.1 h.2 s hs
  simp only [stageB, ordB, Bool.and_eq_true, decide_eq_true_eq] at this
  exact ⟨by omega, by omega, by omega, by omega⟩
theorem dive_len {dive : List St} (h : diveB dive 0 = true) : dive.length ≤ 4 := by
  simp only [diveB, Bool.and_eq_true, decide_eq_true_eq] at h
  omega
theorem rows_itoa {w : World} (htab : Lib.TabIs Tryz.prog w "internal/strconv.uint64pow10" .u64 Lib.pow10Tab) {dive : List St} (h : diveB dive 0 = true) : ∀ r ∈ rowsOf dive, ∀ x ∈ r, ItoaOk w x := by
  intro r hr x hx
  have hl := dive_len h
  have hb : 0 ≤ x ∧ x ≤ 1000 := by
    simp only [rowsOf, List.mem_cons, List.mem_map] at hr
    rcases hr with rfl | ⟨s, hs, rfl⟩
    · simp at hx; omega
    · obtain ⟨h1, h2, h3, h4⟩ := dive_low h s hs
      simp only [List.mem_cons, List.not_mem_nil, or_false] at hx
      rcases hx with rfl | rfl | rfl | rfl <;> omega
  exact itoa_tab htab x hb.1 hb.2

set_option maxHeartbeats 2000000 in
set_option maxRecDepth 20000 in
theorem gasReads_walk (text : List UInt8) (w : World) (htab : Lib.TabIs Tryz.prog w "internal/strconv.uint64pow10" .u64 Lib.pow10Tab) :
    Calls Tryz.prog 10 #[.string (bs text)] w fun e w' => e = .returned (.bool true) ∧ Below w.heap.size w w' := by
  have hsz : ((bs text).size : Int) = text.length := by rw [bs_size]
  by_cases h3 : 300 < text.length
  · have z1 : (300 : Int) < (text.length : Int) := by omega
    clear htab
    go_enter Tryz.func10, Tryz.ntmps10
    go_wp2_with (go_at_call 15; refine (knownLaw_c _).mono ?_; rintro e w15 ⟨rfl, hb⟩; have HB := Lib.hid hb; clear hb)
    exact bodyPost_ret (results_tmp rfl _ _ _) rfl ⟨rfl, HB.out⟩
  · have z1 : ¬ (300 : Int) < (text.length : Int) := by omega
    have HRd := Lib.hid fun (W : World) (hb : Below w.heap.size w W) => Read_c text (by omega) W (fun x h0 h1 => (itoa_tab htab x h0 h1).keep hb)
    have HRf := Lib.hid fun (W : World) => refRead_c text (by omega) W
    have HT := Lib.hid htab
    clear htab
    by_cases h2 : 200 < text.length
    · have z2 : (200 : Int) < (text.length : Int) := by omega
      rw [show readF text = ([], 3) by simp [readF, h2]] at HRd
      generalize refF text = rf at HRf
      go_enter Tryz.func10, Tryz.ntmps10
      go_wp2_with (first
        | (go_at_call 35; refine (HRd.out _ (Below.refl _ _)).mono ?_; rintro e w1 ⟨A1, c1, rfl, hs1, hA1, hb⟩; have B1 := Lib.hid hb; clear hb hs1 hA1)
        | (go_at_call 38; refine (HRf.out _).mono ?_; rintro e w2 ⟨A2, c2, rfl, hs2, hb⟩; have B2 := Lib.hid (nextB B1.out hb); clear hb hs2)
        | (go_at_call 15; refine (knownLaw_c _).mono ?_; rintro e w15 ⟨rfl, hb⟩; have HB := Lib.hid (nextB B2.out hb); clear hb))
      exact bodyPost_ret (results_tmp rfl _ _ _) rfl ⟨rfl, HB.out⟩
    · have z2 : ¬ (200 : Int) < (text.length : Int) := by omega
      have hr := told_ref text
      cases ht : toldF text with
      | none =>
        rw [show readF text = ([], 4) by simp [readF, h2, ht]] at HRd
        rw [ht] at hr
        cases hb2 : (refF text).2 with
        | true => rw [hb2] at hr; cases hr
        | false =>
          rw [hb2] at HRf
          generalize (refF text).1 = rf at HRf
          clear hr ht hb2
          go_enter Tryz.func10, Tryz.ntmps10
          go_wp2_with (first
            | (go_at_call 35; refine (HRd.out _ (Below.refl _ _)).mono ?_; rintro e w1 ⟨A1, c1, rfl, hs1, hA1, hb⟩; have B1 := Lib.hid hb; clear hb hs1 hA1)
            | (go_at_call 38; refine (HRf.out _).mono ?_; rintro e w2 ⟨A2, c2, rfl, hs2, hb⟩; have B2 := Lib.hid (nextB B1.out hb); clear hb hs2)
            | (go_at_call 15; refine (knownLaw_c _).mono ?_; rintro e w15 ⟨rfl, hb⟩; have HB := Lib.hid (nextB B2.out hb); clear hb))
          exact bodyPost_ret (results_tmp rfl _ _ _) rfl ⟨rfl, HB.out⟩
      | some ss =>
        obtain ⟨hsl, hlow⟩ := told_low ht
        rw [show refF text = (ss, true) by rw [← hsl]; exact ref_slip hlow] at HRf
        have hn : ss.length ≤ 300 := by
          have h1 := slip_pieces hlow
          have h2 := pieces_len 10 text
          have h3 := pieces_bd 10 text
          rw [hsl] at h1
          rw [h1] at h2
          simp at h2
          omega
        cases hd : diveB ss 0 with
        | false =>
          rw [show readF text = ([], 2) by simp [readF, h2, ht, hd]] at HRd
          clear hr ht hsl hlow
          have HDv := Lib.hid fun (A : Option Addr) (c : Nat) (W : World) (hs : SlOf St.cs 4 W A ss.length ss) => refDive_c A ss.length c ss (by omega) W hs
          rw [hd] at HDv
          clear hd
          go_enter Tryz.func10, Tryz.ntmps10
          go_wp2_with (first
            | (go_at_call 35; refine (HRd.out _ (Below.refl _ _)).mono ?_; rintro e w1 ⟨A1, c1, rfl, hs1, hA1, hb⟩; have B1 := Lib.hid hb; clear hb hs1 hA1)
            | (go_at_call 38; refine (HRf.out _).mono ?_; rintro e w2 ⟨A2, c2, rfl, hs2, hb⟩; have S2 := Lib.hid hs2; have B2 := Lib.hid (nextB B1.out hb); clear hb hs2)
            | (go_at_call 26; refine (HDv.out _ _ _ S2.out).mono ?_; rintro e w3 ⟨rfl, hb⟩; have B3 := Lib.hid (nextB B2.out hb); clear hb)
            | (go_at_call 15; refine (knownLaw_c _).mono ?_; rintro e w15 ⟨rfl, hb⟩; have HB := Lib.hid (nextB B3.out hb); clear hb))
          exact bodyPost_ret (results_tmp rfl _ _ _) rfl ⟨rfl, HB.out⟩
        | true =>
          rw [show readF text = (ss, 0) by simp [readF, h2, ht, hd]] at HRd
          have HI := Lib.hid (rows_itoa HT.out hd)
          have HDv := Lib.hid fun (A : Option Addr) (c : Nat) (W : World) (hs : SlOf St.cs 4 W A ss.length ss) => refDive_c A ss.length c ss (by omega) W hs
          rw [hd] at HDv
          have HPr := Lib.hid fun (A : Option Addr) (c : Nat) (W : World) (hb : Below w.heap.size w W) (hs : SlOf St.cs 4 W A ss.length ss) => Print_c A ss.length c ss (by omega) W hs (fun r hr x hx => (HI.out r hr x hx).keep hb)
          rw [show prnF ss = (text, 0) by simp [prnF, hd, hsl]] at HPr
          have HSd := Lib.hid fun (A B : Option Addr) (c d : Nat) (W : World) (hA : SlOf St.cs 4 W A ss.length ss) (hB : SlOf St.cs 4 W B ss.length ss) => sameDives_c A B ss.length c d ss (by omega) W hA hB
          clear hr ht hsl hlow hd
          go_enter Tryz.func10, Tryz.ntmps10
          go_wp2_with (first
            | (go_at_call 35; refine (HRd.out _ (Below.refl _ _)).mono ?_; rintro e w1 ⟨A1, c1, rfl, hs1, hA1, hb⟩; have S1 := Lib.hid hs1; have B1 := Lib.hid hb; clear hb hs1 hA1)
            | (go_at_call 38; refine (HRf.out _).mono ?_; rintro e w2 ⟨A2, c2, rfl, hs2, hb⟩; have S2 := Lib.hid hs2; have S12 := Lib.hid (S1.out.keep hb); have B2 := Lib.hid (nextB B1.out hb); clear hb hs2)
            | (go_at_call 26; refine (HDv.out _ _ _ S2.out).mono ?_; rintro e w3 ⟨rfl, hb⟩; have S23 := Lib.hid (S2.out.keep hb); have S13 := Lib.hid (S12.out.keep hb); have B3 := Lib.hid (nextB B2.out hb); clear hb)
            | (go_at_call 34; refine (HPr.out _ _ _ B3.out S13.out).mono ?_; rintro e w4 ⟨rfl, hb⟩; have S24 := Lib.hid (S23.out.keep hb); have S14 := Lib.hid (S13.out.keep hb); have B4 := Lib.hid (nextB B3.out hb); clear hb)
            | (go_at_call 37; refine (HSd.out _ _ _ _ _ S14.out S24.out).mono ?_; rintro e w5 ⟨rfl, hb⟩; have B5 := Lib.hid (nextB B4.out hb); clear hb)
            | (go_at_call 15; refine (knownLaw_c _).mono ?_; rintro e w15 ⟨rfl, hb⟩; have HB := Lib.hid (nextB B5.out hb); clear hb))
          exact bodyPost_ret (results_tmp rfl _ _ _) rfl ⟨rfl, HB.out⟩
end Go.Proofs
namespace Go.Proofs
open Go.RowKit Go.Shelf Gas Go.ChangeShapes Go.WideShapes
set_option maxRecDepth 100000 in
theorem arg_string {W : World} {r : Reach} {b0 : Nat} {v : Value} (u : Value.okWide Tryz.prog W r b0 9 v) : ∃ l, v = .string (bs l) := by
  obtain ⟨s, rfl⟩ := okWide_string Tryz.underlying9 u
  exact ⟨s.data.toList, by simp [bs]⟩
end Go.Proofs
