/-
  Contracts of the law's own seasons, and of the specification's Has, Same, SameEnds, Book and Print, hold at every argument of moderate size.
-/
import Derived.Test.YtplhaohcmhepbaaGreatDoorP8
import Derived.Laws.IdiomStrings
import Derived.Laws.StructEq
namespace Go.Proofs
open Go.RowKit Go.Shelf
attribute [local go_sem ↓] Go.wp_at_zero Go.wp_at_succ

/-- The season of the laws' own tests. -/
def sP (f2 f3 : Int) : List Pe := [⟨3, 0, 1⟩, ⟨2, 40, f2⟩, ⟨1, 10, f3⟩]
def sL : List La := [⟨130, 30, 7⟩, ⟨50, 0, 3⟩, ⟨10, 20, 5⟩]
def sPc (f2 f3 : Int) : Array Value := #[.int .i64 3, .int .i64 0, .int .i64 1, .int .i64 2, .int .i64 40, .int .i64 f2, .int .i64 1, .int .i64 10, .int .i64 f3]
def sLc : Array Value := #[.int .i64 130, .int .i64 30, .int .i64 7, .int .i64 50, .int .i64 0, .int .i64 3, .int .i64 10, .int .i64 20, .int .i64 5]
/-- Such a season as it comes out of S, U and T. -/
def SGives (f2 f3 : Int) (B : Nat) (e : Ending) (w' : World) : Prop := ∃ g h, e = .returned (.agg #[.slice (some ⟨g, 0, none⟩) 3 3, .slice (some ⟨h, 0, none⟩) 3 3]) ∧ Has w' g 49 (sPc f2 f3) ∧ Has w' h 44 sLc ∧ B ≤ g ∧ B ≤ h

set_option maxHeartbeats 1000000 in
theorem S_c (w : World) : Calls Tryz.prog 75 #[] w fun e w' => SGives 1 1 w.heap.size e w' ∧ Below w.heap.size w w' := by
  have H0 := Lib.hid ((((Has.new w 25 #[.slice none 0 0, .slice none 0 0]).alloc (.cells (sPc 1 1) 49)).alloc (.cells sLc 44)))
  have H1 := Lib.hid ((Has.new' (w.alloc (.cells #[.slice none 0 0, .slice none 0 0] 25)) 49 (sPc 1 1) (g := w.heap.size + 1) (by simp)).alloc (.cells sLc 44))
  have H2 := Lib.hid (Has.new' ((w.alloc (.cells #[.slice none 0 0, .slice none 0 0] 25)).alloc (.cells (sPc 1 1) 49)) 44 sLc (g := w.heap.size + 1 + 1) (by simp))
  have B2 := Lib.hid (newB (newB (newB (Below.refl w.heap.size w) (.cells #[.slice none 0 0, .slice none 0 0] 25)) (.cells (sPc 1 1) 49)) (.cells sLc 44))
  go_enter Tryz.func75, Tryz.ntmps75
  go_wp2_with (refine wpList_store_all rfl 25 _ _ rfl w.heap.size rfl _ rfl 25 _ H0.out (by kernel_rfl) rfl (by simp [Value.oneCell']) ?_)
  exact bodyPost_ret (results_cell_row Tryz.results75 _ _ w.heap.size 25 _ (0, 0) _ rfl (H0.out.setRow _) Tryz.underlying25 rfl (by kernel_rfl)) rfl ⟨⟨w.heap.size + 1, w.heap.size + 1 + 1, rfl, H1.out.setRow_far (show w.heap.size + 1 ≠ w.heap.size by omega) _, H2.out.setRow_far (show w.heap.size + 1 + 1 ≠ w.heap.size by omega) _, by omega, by omega⟩, rowB B2.out (Nat.le_refl _) _⟩
end Go.Proofs
namespace Go.Proofs
open Go.RowKit Go.Shelf
attribute [local go_sem ↓] Go.wp_at_zero Go.wp_at_succ

set_option maxHeartbeats 1000000 in
theorem U_c (w : World) : Calls Tryz.prog 76 #[] w fun e w' => SGives 3 1 w.heap.size e w' ∧ Below w.heap.size w w' := by
  have H0 := Lib.hid (Has.new w 25 #[.slice none 0 0, .slice none 0 0])
  have B0 := Lib.hid (newB (Below.refl w.heap.size w) (.cells #[.slice none 0 0, .slice none 0 0] 25))
  have HS := Lib.hid fun (W : World) => S_c W
  go_enter Tryz.func76, Tryz.ntmps76
  go_wp2_with (first
    | (go_at_call 75; refine (HS.out _).mono ?_; rintro e w1 ⟨⟨g, gh, rfl, hg, hh, hb1, hb2⟩, hb⟩; have hb1 : w.heap.size + 1 ≤ g := (by simpa using hb1); have hb2 : w.heap.size + 1 ≤ gh := (by simpa using hb2); have hne : g ≠ gh := (by rintro rfl; unfold Has at hg hh; rw [hg] at hh; cases hh); have HG := Lib.hid ((hg.set 5 (.int .i64 3)).alloc (.cells #[.slice (some ⟨g, 0, none⟩) 3 3, .slice (some ⟨gh, 0, none⟩) 3 3] 25)); have HH := Lib.hid ((hh.far (p := ⟨g, 5, none⟩) (Ne.symm hne) (.int .i64 3)).alloc (.cells #[.slice (some ⟨g, 0, none⟩) 3 3, .slice (some ⟨gh, 0, none⟩) 3 3] 25)); have HT := Lib.hid (((H0.out.after hb).far (p := ⟨g, 5, none⟩) (by show w.heap.size ≠ g; omega) (.int .i64 3)).alloc (.cells #[.slice (some ⟨g, 0, none⟩) 3 3, .slice (some ⟨gh, 0, none⟩) 3 3] 25)); have HB := Lib.hid (newB (setB (nextB B0.out hb) (p := ⟨g, 5, none⟩) (by show w.heap.size ≤ g; omega) (.int .i64 3)) (.cells #[.slice (some ⟨g, 0, none⟩) 3 3, .slice (some ⟨gh, 0, none⟩) 3 3] 25)); have hgl := hg.lt; have hhl := hh.lt; have htl := (H0.out.after hb).lt; have cg := hg.cell; have fg := hg.frozen; clear hg hh hb)
    | (refine wpList_store_all rfl 25 _ _ rfl w.heap.size rfl _ rfl 25 _ HT.out (by kernel_rfl) rfl (by simp [Value.oneCell']) ?_))
  exact bodyPost_ret (results_cell_row Tryz.results76 _ _ w.heap.size 25 _ (0, 0) _ rfl (HT.out.setRow _) Tryz.underlying25 rfl (by kernel_rfl)) rfl ⟨⟨g, gh, rfl, HG.out.setRow_far (show g ≠ w.heap.size by omega) _, HH.out.setRow_far (show gh ≠ w.heap.size by omega) _, by omega, by omega⟩, rowB HB.out (Nat.le_refl _) _⟩

set_option maxHeartbeats 1000000 in
theorem T_c (w : World) : Calls Tryz.prog 77 #[] w fun e w' => SGives 1 2 w.heap.size e w' ∧ Below w.heap.size w w' := by
  have H0 := Lib.hid (Has.new w 25 #[.slice none 0 0, .slice none 0 0])
  have B0 := Lib.hid (newB (Below.refl w.heap.size w) (.cells #[.slice none 0 0, .slice none 0 0] 25))
  have HS := Lib.hid fun (W : World) => S_c W
  go_enter Tryz.func77, Tryz.ntmps77
  go_wp2_with (first
    | (go_at_call 75; refine (HS.out _).mono ?_; rintro e w1 ⟨⟨g, gh, rfl, hg, hh, hb1, hb2⟩, hb⟩; have hb1 : w.heap.size + 1 ≤ g := (by simpa using hb1); have hb2 : w.heap.size + 1 ≤ gh := (by simpa using hb2); have hne : g ≠ gh := (by rintro rfl; unfold Has at hg hh; rw [hg] at hh; cases hh); have HG := Lib.hid ((hg.set 8 (.int .i64 2)).alloc (.cells #[.slice (some ⟨g, 0, none⟩) 3 3, .slice (some ⟨gh, 0, none⟩) 3 3] 25)); have HH := Lib.hid ((hh.far (p := ⟨g, 8, none⟩) (Ne.symm hne) (.int .i64 2)).alloc (.cells #[.slice (some ⟨g, 0, none⟩) 3 3, .slice (some ⟨gh, 0, none⟩) 3 3] 25)); have HT := Lib.hid (((H0.out.after hb).far (p := ⟨g, 8, none⟩) (by show w.heap.size ≠ g; omega) (.int .i64 2)).alloc (.cells #[.slice (some ⟨g, 0, none⟩) 3 3, .slice (some ⟨gh, 0, none⟩) 3 3] 25)); have HB := Lib.hid (newB (setB (nextB B0.out hb) (p := ⟨g, 8, none⟩) (by show w.heap.size ≤ g; omega) (.int .i64 2)) (.cells #[.slice (some ⟨g, 0, none⟩) 3 3, .slice (some ⟨gh, 0, none⟩) 3 3] 25)); have hgl := hg.lt; have hhl := hh.lt; have htl := (H0.out.after hb).lt; have cg := hg.cell; have fg := hg.frozen; clear hg hh hb)
    | (refine wpList_store_all rfl 25 _ _ rfl w.heap.size rfl _ rfl 25 _ HT.out (by kernel_rfl) rfl (by simp [Value.oneCell']) ?_))
  exact bodyPost_ret (results_cell_row Tryz.results77 _ _ w.heap.size 25 _ (0, 0) _ rfl (HT.out.setRow _) Tryz.underlying25 rfl (by kernel_rfl)) rfl ⟨⟨g, gh, rfl, HG.out.setRow_far (show g ≠ w.heap.size by omega) _, HH.out.setRow_far (show gh ≠ w.heap.size by omega) _, by omega, by omega⟩, rowB HB.out (Nat.le_refl _) _⟩
end Go.Proofs
namespace Go.Proofs
open Go.RowKit Go.Shelf
attribute [local go_sem ↓] Go.wp_at_zero Go.wp_at_succ

theorem pow_bd (k : Nat) (hk : k ≤ 40) : (1 : Int) ≤ 2 ^ k ∧ (2 : Int) ^ k ≤ 1099511627776 := by
  have e : ((2 ^ k : Nat) : Int) = (2 : Int) ^ k := by push_cast; rfl
  have h1 : (2 : Nat) ^ k ≤ 2 ^ 40 := Nat.pow_le_pow_right (by omega) hk
  have h2 : 0 < (2 : Nat) ^ k := Nat.pow_pos (by omega)
  have h3 : (2 : Nat) ^ 40 = 1099511627776 := by decide
  omega
/-- The specification's power of two. -/
theorem power_c (n : Nat) (hn : n ≤ 40) (w : World) : Calls Tryz.prog 93 #[.int .i64 n] w fun e w' => e = .returned (.int .i64 (2 ^ n)) ∧ w = w' := by
  go_enter Tryz.func93, Tryz.ntmps93
  go_wp2
  go_loop [3, 4] (fun a i => ∃ k : Nat, k ≤ n ∧ i = .int .i64 k ∧ a = .int .i64 (2 ^ k)) (fun _ i => n - (intOf i).toNat)
  case atStart => exact ⟨0, by omega, rfl, rfl⟩
  case round =>
    obtain ⟨k, hk, rfl, rfl⟩ := hrel
    by_cases hkn : k < n
    · have hp := pow_bd k (by omega)
      have HW := Lib.hid (show wrap64 (2 * 2 ^ k) = 2 ^ (k + 1) by rw [Int.pow_succ, w64 (by omega) (by omega)]; omega)
      clear hp
      generalize (2 : Int) ^ k = p at *
      go_wp2
      go_round
      case rel => exact ⟨k + 1, by omega, by go_num, by rw [← HW.out]⟩
      case measure => first | (simp [intOf]; done) | (simp [intOf]; omega)
    · have hke : k = n := by omega
      subst hke
      go_wp2
      exact bodyPost_ret (results_tmp rfl _ _ _) rfl ⟨rfl, rfl⟩
/-- The specification's membership. -/
theorem refHas_c (s : Int) (h0 : 0 ≤ s) (hs : s ≤ 9223372036854775807) (k : Nat) (hk : k ≤ 40) (w : World) : Calls Tryz.prog 36 #[.int .i64 s, .int .i64 k] w fun e w' => e = .returned (.bool (hasB s k)) ∧ w = w' := by
  have HP := Lib.hid fun (W : World) => power_c k hk W
  have hp := pow_bd k hk
  have HH := Lib.hid (show hasB s k = ((s / 2 ^ k) % 2 == 1) from rfl)
  generalize (2 : Int) ^ k = p at *
  have h1 : s.tdiv p = s / p := Int.tdiv_eq_ediv_of_nonneg h0
  have h2 : 0 ≤ s / p := Int.ediv_nonneg h0 (by omega)
  have h3 : (s / p).tmod 2 = s / p % 2 := Int.tmod_eq_emod_of_nonneg h2
  have h6 : s / p ≤ s := Int.ediv_le_self _ h0
  have h7 : wrap64 (s / p) = s / p := w64 (by omega) (by omega)
  have h4 : ¬ p = 0 := by omega
  have h5 : ¬ p = -1 := by omega
  go_enter Tryz.func36, Tryz.ntmps36
  go_wp2_with (go_at_call 93; refine (HP.out _).mono ?_; rintro e w1 ⟨rfl, rfl⟩)
  exact bodyPost_ret (results_tmp rfl _ _ _) rfl ⟨by rw [HH.out, ← h3, ← h7]; rfl, rfl⟩
set_option maxHeartbeats 1000000 in
/-- The specification's comparison of two lists. -/
theorem same_c (A B : Option Addr) (n m c d : Nat) (xs ys : List Int) (hn : n ≤ 1000000) (w : World) (hA : SlOf inC 1 w A n xs) (hB : SlOf inC 1 w B m ys) :
    Calls Tryz.prog 29 #[.slice A n c, .slice B m d] w fun e w' => e = .returned (.bool (decide (xs = ys))) ∧ Below w.heap.size w w' := by
  have HA := Lib.hid hA; have HB := Lib.hid hB; have HN := Lib.hid hA.1; have HM := Lib.hid hB.1
  clear hA hB
  by_cases hnm : n = m
  · subst hnm
    have i1 : ((n : Int) != n) = false := by simp
    go_enter Tryz.func29, Tryz.ntmps29
    go_wp2
    go_loopw [5] (fun v wr => ∃ k : Nat, k ≤ n ∧ v = .int .i64 k ∧ xs.take k = ys.take k ∧ Below w.heap.size w wr) (fun v _ => n - (intOf v).toNat)
    case atStart => exact ⟨0, by omega, rfl, rfl, Below.refl _ _⟩
    case round =>
      obtain ⟨k, hk, rfl, hT, hBw⟩ := hrel
      have HT := Lib.hid hT; have HBw := Lib.hid hBw
      clear hT hBw
      by_cases hkn : k < n
      · have hkx : k < xs.length := by rw [HN.out]; exact hkn
        have hky : k < ys.length := by rw [HM.out]; exact hkn
        obtain ⟨b1, o1, rfl⟩ := HA.out.addr (by omega)
        obtain ⟨b2, o2, rfl⟩ := HB.out.addr (by omega)
        have hx := List.getElem?_eq_getElem hkx
        have hy := List.getElem?_eq_getElem hky
        have HTx := Lib.hid (List.take_append_getElem hkx); have HTy := Lib.hid (List.take_append_getElem hky)
        obtain ⟨x, hxx⟩ : ∃ x, x = xs[k] := ⟨_, rfl⟩
        obtain ⟨y, hyy⟩ : ∃ y, y = ys[k] := ⟨_, rfl⟩
        rw [← hxx] at hx HTx
        rw [← hyy] at hy HTy
        have C1 := Lib.hid fun (W : World) (hb : Below wr.heap.size wr W) => (by have := ((HA.out.keep HBw.out).keep hb).range inC_len hx 0 _ rfl; simpa using this : W.cell? ⟨b1, o1 + k, none⟩ = some (.int .i64 x))
        have C2 := Lib.hid fun (W : World) (hb : Below wr.heap.size wr W) => (by have := ((HB.out.keep HBw.out).keep hb).range inC_len hy 0 _ rfl; simpa using this : W.cell? ⟨b2, o2 + k, none⟩ = some (.int .i64 y))
        have HD := Lib.hid (show x ≠ y → xs ≠ ys from fun h e => h (by rw [e, hy] at hx; exact (Option.some.inj hx).symm))
        clear hx hy hxx hyy
        go_wp2
        by_cases hxy : x = y
        · have e1 : (x != y) = false := by simp [hxy]
          apply wp_loose 9 [.v _, .v _, .v _, .v _, .v _, .v _, .v _, .v _, .v (.bool false)] (by kernel_rfl) (by kernel_rfl) (by kernel_rfl) (by decide) rfl
          intro K hK
          iterate 8 (apply OblS.val rfl; (intro w' hb _; have := C1.out w' hb; have := C2.out w' hb; go_simp; rfl))
          apply OblS.val rfl
          · intro w' hb _; go_simp
          apply OblS.nil
          apply hK
          intro w2 hb hH
          have B2 := Lib.hid (nextB HBw.out hb)
          clear hH hK K hb
          simp only [Act.put, List.setIfInBounds_toArray, List.set_cons_zero, List.set_cons_succ, List.drop_succ_cons, List.drop_zero]
          go_wp2
          go_roundw
          case rel => exact ⟨k + 1, by omega, by go_num, by rw [← HTx.out, ← HTy.out, HT.out, hxy], B2.out⟩
          case measure => first | (simp [intOf]; done) | (simp [intOf]; omega)
        · have e1 : (x != y) = true := by simp [hxy]
          have HF := Lib.hid (show decide (xs = ys) = false from decide_eq_false (HD.out hxy))
          clear hxy
          apply wp_loose 9 [.v _, .v _, .v _, .v _, .v _, .v _, .v _, .v _, .v (.bool true)] (by kernel_rfl) (by kernel_rfl) (by kernel_rfl) (by decide) rfl
          intro K hK
          iterate 8 (apply OblS.val rfl; (intro w' hb _; have := C1.out w' hb; have := C2.out w' hb; go_simp; rfl))
          apply OblS.val rfl
          · intro w' hb _; go_simp
          apply OblS.nil
          apply hK
          intro w2 hb hH
          have B2 := Lib.hid (nextB HBw.out hb)
          clear hH hK K hb
          simp only [Act.put, List.setIfInBounds_toArray, List.set_cons_zero, List.set_cons_succ, List.drop_succ_cons, List.drop_zero]
          go_wp2
          exact bodyPost_ret (results_tmp rfl _ _ _) rfl ⟨by rw [HF.out]; rfl, B2.out⟩
      · have hke : k = n := by omega
        subst hke
        have HF := Lib.hid (show decide (xs = ys) = true from decide_eq_true (by
          have := HT.out
          rwa [List.take_of_length_le (by rw [HN.out]; exact Nat.le_refl _), List.take_of_length_le (by rw [HM.out]; exact Nat.le_refl _)] at this))
        go_wp2
        exact bodyPost_ret (results_tmp rfl _ _ _) rfl ⟨by rw [HF.out]; rfl, HBw.out⟩
  · have HF := Lib.hid (show decide (xs = ys) = false from decide_eq_false (by rintro rfl; exact hnm (HN.out.symm.trans HM.out)))
    rw [HF.out]
    have i1 : ((n : Int) != m) = true := by rw [bne_iff_ne]; omega
    go_enter Tryz.func29, Tryz.ntmps29
    go_wp2
    exact bodyPost_ret (results_tmp rfl _ _ _) rfl ⟨rfl, Below.refl _ _⟩
end Go.Proofs
namespace Go.Proofs
open Go.RowKit Go.Shelf
attribute [local go_sem ↓] Go.wp_at_zero Go.wp_at_succ

/-- The last digit of a number. -/
def dgt (m : Nat) : UInt8 := UInt8.ofNat (48 + m % 10)
theorem dec_split (m : Nat) : Lib.decDigits m = (if m < 10 then [] else Lib.decDigits (m / 10)) ++ [dgt m] := by
  unfold dgt
  rw [Lib.decDigits]
  by_cases h : m < 10
  · rw [dif_pos h, if_pos h, Nat.mod_eq_of_lt h]; rfl
  · rw [dif_neg h, if_neg h]
theorem conv1 (m : Nat) (W : World) : (convert 107 9 (.slice (some ⟨W.heap.size, 0, none⟩) 1 1)).run Tryz.prog (W.alloc (.cells #[.int .u8 (48 + (m : Int) % 10)] 5)) = .ok (.string (bs [dgt m])) (W.alloc (.cells #[.int .u8 (48 + (m : Int) % 10)] 5)) := by
  have := run_convert_bytes_back (P := Tryz.prog) (W.alloc (.cells #[.int .u8 (48 + (m : Int) % 10)] 5)) 107 9 5 ⟨W.heap.size, 0, none⟩ 1 [UInt8.ofNat (48 + m % 10)] Tryz.underlying107 (by kernel_rfl) (by kernel_rfl) (fun j hj => by
    have hj0 : j = 0 := by simpa using hj
    subst hj0
    have hc := (Has.new W 5 #[.int .u8 (48 + (m : Int) % 10)]).cell 0
    have ha : (⟨W.heap.size, 0, none⟩ : Addr).add 0 = ⟨W.heap.size, 0, none⟩ := by unfold Addr.add; split <;> simp_all
    rw [ha, hc]
    simp
    omega)
  exact this
theorem bs_two (x : UInt8) (l : List UInt8) : bs [x] ++ bs l = bs (x :: l) := bs_app [x] l

set_option maxHeartbeats 2000000 in
set_option maxRecDepth 20000 in
/-- The specification's Decimal. -/
theorem decimal_c (n : Nat) (hn : n ≤ 1000000) (w : World) : Calls Tryz.prog 121 #[.int .i64 n] w fun e w' => e = .returned (.string (bs (Lib.itoa n))) ∧ Below w.heap.size w w' := by
  have hcv := conv1 n
  have HE := Lib.hid (show Lib.itoa n = Lib.decDigits n by rw [Lib.itoa, if_neg (by omega)]; rfl)
  have HD := Lib.hid (dec_split n)
  go_enter Tryz.func121, Tryz.ntmps121
  go_wp2
  have B0 := Lib.hid (newB (Below.refl w.heap.size w) (.cells #[.int .u8 (48 + (n : Int) % 10)] 5))
  generalize w.alloc (.cells #[.int .u8 (48 + (n : Int) % 10)] 5) = w1 at *
  clear hcv
  go_loopw [0, 3] (fun v u wr => ∃ (m : Nat) (tl : List UInt8), v = .int .i64 m ∧ u = .string (bs tl) ∧ Lib.decDigits n = (if m < 10 then [] else Lib.decDigits (m / 10)) ++ tl ∧ m ≤ 1000000 ∧ tl.length + m ≤ 1000001 ∧ Below w.heap.size w wr) (fun v _ _ => (intOf v).toNat)
  case atStart => exact ⟨n, _, rfl, rfl, HD.out, hn, by simp; omega, B0.out⟩
  case round =>
    obtain ⟨m, tl, rfl, rfl, hd, hm, hl, hB⟩ := hrel
    have HB := Lib.hid hB; have HDD := Lib.hid hd
    clear hB hd
    by_cases hm10 : m < 10
    · have hlt : ¬ (m : Int) ≥ 10 := by omega
      go_wp2
      refine bodyPost_ret (results_tmp rfl _ _ _) rfl ⟨?_, HB.out⟩
      rw [HE.out, HDD.out, if_pos hm10]; rfl
    · have hge : (m : Int) ≥ 10 := by omega
      have hcv : ∀ W : World, (convert 107 9 (.slice (some ⟨W.heap.size, 0, none⟩) 1 1)).run Tryz.prog (W.alloc (.cells #[.int .u8 (48 + (m : Int) / 10 % 10)] 5)) = .ok (.string (bs [dgt (m / 10)])) (W.alloc (.cells #[.int .u8 (48 + (m : Int) / 10 % 10)] 5)) := fun W => by
        have := conv1 (m / 10) W
        push_cast at this
        exact this
      have z1 : (bs [dgt (m / 10)]).size ≤ 10 := by rw [bs_size]; simp
      have z2 : (bs tl).size ≤ 2000000 := by rw [bs_size]; omega
      have htl := bs_two (dgt (m / 10)) tl
      have HD2 := Lib.hid (show Lib.decDigits n = (if m / 10 < 10 then [] else Lib.decDigits (m / 10 / 10)) ++ (dgt (m / 10) :: tl) by
        rw [HDD.out, if_neg hm10, dec_split (m / 10), List.append_assoc]; rfl)
      have hq : Int.tdiv (m : Int) 10 = ((m / 10 : Nat) : Int) := by rw [Int.tdiv_eq_ediv_of_nonneg (by omega)]; omega
      go_wp2
      go_roundw
      case rel => exact ⟨m / 10, dgt (m / 10) :: tl, by simp, rfl, HD2.out, by omega, by simp; omega, newB HB.out _⟩
      case measure => simp [intOf]; omega
/-- The specification's word of a fate. -/
theorem word_c (f : Int) (hf : f = 1 ∨ f = 2 ∨ f = 3) (w : World) : Calls Tryz.prog 122 #[.int .i64 f] w fun e w' => e = .returned (.string (bs (wordF f))) ∧ Below w.heap.size w w' := by
  rcases hf with rfl | rfl | rfl
  all_goals
    go_enter Tryz.func122, Tryz.ntmps122
    go_wp2
    exact bodyPost_ret (results_tmp rfl _ _ _) rfl ⟨rfl, Below.refl _ _⟩
end Go.Proofs
namespace Go.Proofs
open Go.RowKit Go.Shelf
attribute [local go_sem ↓] Go.wp_at_zero Go.wp_at_succ

theorem eq46 (a b : En) (w : World) : (Op.equalIn 10000 46 (.agg a.cs.toArray) (.agg b.cs.toArray)).run Tryz.prog w = .ok (decide (a = b)) w := by
  rw [run_equalIn_struct _ _ _ _ _ (by kernel_rfl) (by kernel_rfl)]
  obtain ⟨a1, a2, a3, a4, a5⟩ := a
  obtain ⟨b1, b2, b3, b4, b5⟩ := b
  simp [go_sem, Op.eqFields, Tryz.underlying46, Program.fieldsOf, En.cs]
  repeat' split
  all_goals simp_all
theorem eq46t {x y : En} (h : x = y) (w : World) : (Op.equalIn 10000 46 (.agg #[.int .i64 x.s, .int .i64 x.o, .int .i64 x.p, .int .i64 x.w, .int .i64 x.k]) (.agg #[.int .i64 y.s, .int .i64 y.o, .int .i64 y.p, .int .i64 y.w, .int .i64 y.k])).run Tryz.prog w = .ok true w := by
  have := eq46 x y w
  rw [decide_eq_true h] at this
  exact this
theorem eq46f {x y : En} (h : x ≠ y) (w : World) : (Op.equalIn 10000 46 (.agg #[.int .i64 x.s, .int .i64 x.o, .int .i64 x.p, .int .i64 x.w, .int .i64 x.k]) (.agg #[.int .i64 y.s, .int .i64 y.o, .int .i64 y.p, .int .i64 y.w, .int .i64 y.k])).run Tryz.prog w = .ok false w := by
  have := eq46 x y w
  rw [decide_eq_false h] at this
  exact this
theorem cells46 {W : World} {b o : Nat} {x : En} (h : W.rangeAt b o x.cs) : W.cell? ⟨b, o, none⟩ = some (.int .i64 x.s) ∧ W.cell? ⟨b, o + 1, none⟩ = some (.int .i64 x.o) ∧ W.cell? ⟨b, o + 2, none⟩ = some (.int .i64 x.p) ∧ W.cell? ⟨b, o + 3, none⟩ = some (.int .i64 x.w) ∧ W.cell? ⟨b, o + 4, none⟩ = some (.int .i64 x.k) := by
  have h0 := h 0 _ rfl; have h1 := h 1 _ rfl; have h2 := h 2 _ rfl; have h3 := h 3 _ rfl; have h4 := h 4 _ rfl
  exact ⟨by simpa using h0, h1, h2, h3, h4⟩
set_option maxHeartbeats 1000000 in
/-- The specification's comparison of two lists of ends. -/
theorem sameEnds_c (A B : Option Addr) (n m c d : Nat) (xs ys : List En) (hn : n ≤ 1000000) (w : World) (hA : SlOf En.cs 5 w A n xs) (hB : SlOf En.cs 5 w B m ys) :
    Calls Tryz.prog 33 #[.slice A n c, .slice B m d] w fun e w' => e = .returned (.bool (decide (xs = ys))) ∧ Below w.heap.size w w' := by
  have HA := Lib.hid hA; have HB := Lib.hid hB; have HN := Lib.hid hA.1; have HM := Lib.hid hB.1
  clear hA hB
  by_cases hnm : n = m
  · subst hnm
    have i1 : ((n : Int) != n) = false := by simp
    go_enter Tryz.func33, Tryz.ntmps33
    go_wp2
    go_loopw [5] (fun v wr => ∃ k : Nat, k ≤ n ∧ v = .int .i64 k ∧ xs.take k = ys.take k ∧ Below w.heap.size w wr) (fun v _ => n - (intOf v).toNat)
    case atStart => exact ⟨0, by omega, rfl, rfl, Below.refl _ _⟩
    case round =>
      obtain ⟨k, hk, rfl, hT, hBw⟩ := hrel
      have HT := Lib.hid hT; have HBw := Lib.hid hBw
      clear hT hBw
      by_cases hkn : k < n
      · have hkx : k < xs.length := by rw [HN.out]; exact hkn
        have hky : k < ys.length := by rw [HM.out]; exact hkn
        obtain ⟨b1, o1, rfl⟩ := HA.out.addr (by omega)
        obtain ⟨b2, o2, rfl⟩ := HB.out.addr (by omega)
        have hx := List.getElem?_eq_getElem hkx
        have hy := List.getElem?_eq_getElem hky
        have HTx := Lib.hid (List.take_append_getElem hkx); have HTy := Lib.hid (List.take_append_getElem hky)
        obtain ⟨x, hxx⟩ : ∃ x, x = xs[k] := ⟨_, rfl⟩
        obtain ⟨y, hyy⟩ : ∃ y, y = ys[k] := ⟨_, rfl⟩
        rw [← hxx] at hx HTx
        rw [← hyy] at hy HTy
        have C1 := Lib.hid fun (W : World) (hb : Below wr.heap.size wr W) => (((HA.out.keep HBw.out).keep hb).range En.cs_len hx : W.rangeAt b1 (o1 + k * 5) x.cs)
        have C2 := Lib.hid fun (W : World) (hb : Below wr.heap.size wr W) => (((HB.out.keep HBw.out).keep hb).range En.cs_len hy : W.rangeAt b2 (o2 + k * 5) y.cs)
        have HD := Lib.hid (show x ≠ y → xs ≠ ys from fun h e => h (by rw [e, hy] at hx; exact (Option.some.inj hx).symm))
        clear hx hy hxx hyy
        have M1 := fun (W : World) (hb : Below wr.heap.size wr W) => cells46 (C1.out W hb)
        have M2 := fun (W : World) (hb : Below wr.heap.size wr W) => cells46 (C2.out W hb)
        go_wp2
        by_cases hxy : x = y
        · have e1 := fun W => eq46t hxy W
          apply wp_loose 9 [.v _, .v _, .v _, .v _, .v _, .v _, .v _, .v _, .v (.bool false)] (by kernel_rfl) (by kernel_rfl) (by kernel_rfl) (by decide) rfl
          intro K hK
          iterate 8 (apply OblS.val rfl; (intro w' hb _; obtain ⟨_, _, _, _, _⟩ := M1 w' hb; obtain ⟨_, _, _, _, _⟩ := M2 w' hb; go_simp; rfl))
          apply OblS.val rfl
          · intro w' hb _; go_simp
          apply OblS.nil
          apply hK
          intro w2 hb hH
          have B2 := Lib.hid (nextB HBw.out hb)
          clear hH hK K hb
          simp only [Act.put, List.setIfInBounds_toArray, List.set_cons_zero, List.set_cons_succ, List.drop_succ_cons, List.drop_zero]
          go_wp2
          go_roundw
          case rel => exact ⟨k + 1, by omega, by go_num, by rw [← HTx.out, ← HTy.out, HT.out, hxy], B2.out⟩
          case measure => first | (simp [intOf]; done) | (simp [intOf]; omega)
        · have e1 := fun W => eq46f hxy W
          have HF := Lib.hid (show decide (xs = ys) = false from decide_eq_false (HD.out hxy))
          clear hxy
          apply wp_loose 9 [.v _, .v _, .v _, .v _, .v _, .v _, .v _, .v _, .v (.bool true)] (by kernel_rfl) (by kernel_rfl) (by kernel_rfl) (by decide) rfl
          intro K hK
          iterate 8 (apply OblS.val rfl; (intro w' hb _; obtain ⟨_, _, _, _, _⟩ := M1 w' hb; obtain ⟨_, _, _, _, _⟩ := M2 w' hb; go_simp; rfl))
          apply OblS.val rfl
          · intro w' hb _; go_simp
          apply OblS.nil
          apply hK
          intro w2 hb hH
          have B2 := Lib.hid (nextB HBw.out hb)
          clear hH hK K hb
          simp only [Act.put, List.setIfInBounds_toArray, List.set_cons_zero, List.set_cons_succ, List.drop_succ_cons, List.drop_zero]
          go_wp2
          exact bodyPost_ret (results_tmp rfl _ _ _) rfl ⟨by rw [HF.out]; rfl, B2.out⟩
      · have hke : k = n := by omega
        subst hke
        have HF := Lib.hid (show decide (xs = ys) = true from decide_eq_true (by
          have := HT.out
          rwa [List.take_of_length_le (by rw [HN.out]; exact Nat.le_refl _), List.take_of_length_le (by rw [HM.out]; exact Nat.le_refl _)] at this))
        go_wp2
        exact bodyPost_ret (results_tmp rfl _ _ _) rfl ⟨by rw [HF.out]; rfl, HBw.out⟩
  · have HF := Lib.hid (show decide (xs = ys) = false from decide_eq_false (by rintro rfl; exact hnm (HN.out.symm.trans HM.out)))
    rw [HF.out]
    have i1 : ((n : Int) != m) = true := by rw [bne_iff_ne]; omega
    go_enter Tryz.func33, Tryz.ntmps33
    go_wp2
    exact bodyPost_ret (results_tmp rfl _ _ _) rfl ⟨rfl, Below.refl _ _⟩
end Go.Proofs
namespace Go.Proofs
open Go.RowKit Go.Shelf
attribute [local go_sem ↓] Go.wp_at_zero Go.wp_at_succ

/-- The specification's bounds. -/
theorem refIn_c (n lo hi : Int) (w : World) : Calls Tryz.prog 82 #[.int .i64 n, .int .i64 lo, .int .i64 hi] w fun e w' => e = .returned (.bool (inB n lo hi)) ∧ w = w' := by
  unfold inB
  by_cases h1 : lo ≤ n
  · by_cases h2 : n ≤ hi
    · go_enter Tryz.func82, Tryz.ntmps82
      go_wp2
      go_ret
      simp [h1, h2]
    · go_enter Tryz.func82, Tryz.ntmps82
      go_wp2
      go_ret
      simp [h2]
  · have hd : decide (lo ≤ n) = false := by simpa using h1
    go_enter Tryz.func82, Tryz.ntmps82
    go_wp2
    go_ret
    simp
theorem refNumber_c (n : Int) (w : World) : Calls Tryz.prog 110 #[.int .i64 n] w fun e w' => e = .returned (.bool (numB n)) ∧ w = w' := by
  have HI := Lib.hid fun (W : World) => refIn_c n 0 1000000000000000 W
  have HN := Lib.hid (show numB n = inB n 0 1000000000000000 from rfl)
  go_enter Tryz.func110, Tryz.ntmps110
  go_wp2_with (go_at_call 82; refine (HI.out _).mono ?_; rintro e w1 ⟨rfl, rfl⟩)
  exact bodyPost_ret (results_tmp rfl _ _ _) rfl ⟨by rw [HN.out]; rfl, rfl⟩
end Go.Proofs
namespace Go.Proofs
open Go.RowKit Go.Shelf
attribute [local go_sem ↓] Go.wp_at_zero Go.wp_at_succ

theorem nums_not {xs : List Int} {k : Nat} {x : Int} (hx : xs[k]? = some x) (h : numB x = false) : numsB xs = false := by
  cases hn : numsB xs with
  | false => rfl
  | true => rw [List.all_eq_true.1 hn x (List.mem_of_getElem? hx)] at h; cases h
theorem nums_all {xs : List Int} (h : ∀ (k : Nat) x, xs[k]? = some x → numB x = true) : numsB xs = true :=
  List.all_eq_true.2 fun x hx => by
    obtain ⟨k, hk, rfl⟩ := List.getElem_of_mem hx
    exact h k _ (List.getElem?_eq_getElem hk)
theorem book_no_all {b : Bk} (h : numB b.all = false) : bookB b = false := by simp [bookB, h]
theorem book_no_rows {b : Bk} (h : ¬ b.rows.length ≤ 6) : bookB b = false := by simp [bookB, h]
theorem book_no_dn {b : Bk} (h : ¬ b.dn.length ≤ 6) : bookB b = false := by simp [bookB, h]
theorem book_no_ac {b : Bk} (h : ¬ b.ac.length = b.rows.length) : bookB b = false := by simp [bookB, h]
theorem book_no_acs {b : Bk} (h : numsB b.ac = false) : bookB b = false := by simp [bookB, h]
theorem book_no_dns {b : Bk} (h : numsB b.dn = false) : bookB b = false := by simp [bookB, h]
theorem book_no_row {b : Bk} {k : Nat} {r : List Int} (hr : b.rows[k]? = some r) (h : (decide (r.length = b.dn.length) && numsB r) = false) : bookB b = false := by
  have : b.rows.all (fun r => decide (r.length = b.dn.length) && numsB r) = false := by
    cases hn : b.rows.all (fun r => decide (r.length = b.dn.length) && numsB r) with
    | false => rfl
    | true => rw [List.all_eq_true.1 hn r (List.mem_of_getElem? hr)] at h; cases h
  simp only [bookB, this]; simp
theorem book_yes {b : Bk} (h1 : b.rows.length ≤ 6) (h2 : b.dn.length ≤ 6) (h3 : b.ac.length = b.rows.length) (h4 : ∀ (k : Nat) r, b.rows[k]? = some r → r.length = b.dn.length ∧ numsB r = true) (h5 : numsB b.ac = true) (h6 : numsB b.dn = true) (h7 : numB b.all = true) : bookB b = true := by
  have : b.rows.all (fun r => decide (r.length = b.dn.length) && numsB r) = true := List.all_eq_true.2 fun r hr => by
    obtain ⟨k, hk, rfl⟩ := List.getElem_of_mem hr
    have := h4 k _ (List.getElem?_eq_getElem hk)
    simp [this.1, this.2]
  simp only [bookB, this, h1, h2, h3, h5, h6, h7]; simp
end Go.Proofs
namespace Go.Proofs
open Go.RowKit Go.Shelf
attribute [local go_sem ↓] Go.wp_at_zero Go.wp_at_succ

set_option maxHeartbeats 4000000 in
/-- The specification's look at a book. -/
theorem refBook_c (m : Bm) (hm : m.Small) (hrn : ∀ s ∈ m.ss, s.2.1 ≤ 1000000) (w : World) (hi : m.In w) :
    Calls Tryz.prog 62 #[m.val] w fun e w' => e = .returned (.bool (bookB m.b)) ∧ Below w.heap.size w w' := by
  obtain ⟨R, A, D, rn, rc, an, ac, dn, dc, ss, ⟨rows, acr, dnr, all⟩⟩ := m
  obtain ⟨h1, h2, h3, h4⟩ := hi
  obtain ⟨m1, m2, m3⟩ := hm
  simp only [Bm.val] at *
  have e1 : rows.length = rn := by rw [← h2.1, h1.1]
  have e2 : acr.length = an := h3.1
  have e3 : dnr.length = dn := h4.1
  have HS := Lib.hid h1; have HR := Lib.hid h2; have HA := Lib.hid h3; have HD := Lib.hid h4; have HRL := Lib.hid e1; have HAL := Lib.hid e2; have HDL := Lib.hid e3; have HK := Lib.hid hrn
  have HN := Lib.hid fun (x : Int) (W : World) => refNumber_c x W
  have F0 := Lib.hid (Has.new w 80 #[.slice R rn rc, .slice A an ac, .slice D dn dc, .int .i64 all])
  have B0 := Lib.hid (newB (Below.refl w.heap.size w) (.cells #[.slice R rn rc, .slice A an ac, .slice D dn dc, .int .i64 all] 80))
  have HE := Lib.hid (show ∃ q, q = bookB ⟨rows, acr, dnr, all⟩ from ⟨_, rfl⟩)
  obtain ⟨q, hq⟩ := HE.out
  rw [← hq]
  have HQ := Lib.hid hq
  clear h1 h2 h3 h4 hrn e1 e2 e3 HE hq
  by_cases c1 : rn ≤ 6
  · have d1 : decide ((rn : Int) > 6) = false := by simp; omega
    by_cases c2 : dn ≤ 6
    · have d2 : decide ((dn : Int) > 6) = false := by simp; omega
      by_cases c3 : an = rn
      · have d3 : ((an : Int) != (rn : Int)) = false := by simp; omega
        cases c4 : numB all
        · have HF := Lib.hid (show q = false by rw [HQ.out]; exact book_no_all c4)
          have HNa := Lib.hid (HN.out all)
          rw [c4] at HNa
          clear c3 c4
          go_enter Tryz.func62, Tryz.ntmps62
          go_wp2_with (go_at_call 110; refine (HNa.out _).mono ?_; rintro e w1 ⟨rfl, rfl⟩)
          exact bodyPost_ret (results_tmp rfl _ _ _) rfl ⟨by rw [HF.out]; rfl, B0.out⟩
        · have HNa := Lib.hid (HN.out all)
          rw [c4] at HNa
          have C4 := Lib.hid c4; have C3 := Lib.hid c3
          clear c3 c4
          go_enter Tryz.func62, Tryz.ntmps62
          go_wp2_with (go_at_call 110; refine (HNa.out _).mono ?_; rintro e w1 ⟨rfl, rfl⟩)
          go_loopw [3] (fun v wr => ∃ k : Nat, k ≤ rn ∧ v = .int .i64 k ∧ Below w.heap.size w wr ∧ Has wr w.heap.size 80 #[.slice R rn rc, .slice A an ac, .slice D dn dc, .int .i64 all] ∧ (∀ (j : Nat) r, j < k → rows[j]? = some r → r.length = dn ∧ numsB r = true) ∧ (∀ (j : Nat) x, j < k → acr[j]? = some x → numB x = true)) (fun v _ => rn - (intOf v).toNat)
          case atStart => exact ⟨0, by omega, rfl, B0.out, F0.out, fun j x hj => absurd hj (by omega), fun j x hj => absurd hj (by omega)⟩
          case round =>
            obtain ⟨k, hk, rfl, hB, hF, hG1, hG2⟩ := hrel
            have HB := Lib.hid hB; have HF := Lib.hid hF; have HG1 := Lib.hid hG1; have HG2 := Lib.hid hG2
            have cf := hF.cell
            clear hB hF hG1 hG2
            by_cases hkn : k < rn
            · have hkl : k < rows.length := by rw [HRL.out]; exact hkn
              have hka : k < acr.length := by rw [HAL.out, C3.out]; exact hkn
              have hkan : k < an := by rw [C3.out]; exact hkn
              obtain ⟨b, o, he⟩ := HS.out.addr (by omega)
              obtain ⟨ba, oa, hea⟩ := HA.out.addr (by omega)
              obtain ⟨s, hs, hrow⟩ := (HR.out.keep HB.out).get hkl
              have hs1 := HK.out s (List.mem_of_getElem? hs)
              have hx := List.getElem?_eq_getElem hkl
              have hxa := List.getElem?_eq_getElem hka
              obtain ⟨r, hrr⟩ : ∃ r, r = rows[k] := ⟨_, rfl⟩
              obtain ⟨a, haa⟩ : ∃ a, a = acr[k] := ⟨_, rfl⟩
              rw [← hrr] at hrow hx
              rw [← haa] at hxa
              have HX := Lib.hid hx; have HXa := Lib.hid hxa
              subst he
              subst hea
              obtain ⟨A1, n1, k1⟩ := s
              simp only at hrow hs1
              have K1 := Lib.hid fun (W : World) (hb : Below wr.heap.size wr W) => (by have := ((HS.out.keep HB.out).keep hb).range slC_len hs 0 _ rfl; simpa using this : W.cell? ⟨b, o + k, none⟩ = some (.slice A1 n1 k1))
              have K2 := Lib.hid fun (W : World) (hb : Below wr.heap.size wr W) => (by have := ((HA.out.keep HB.out).keep hb).range inC_len hxa 0 _ rfl; simpa using this : W.cell? ⟨ba, oa + k, none⟩ = some (.int .i64 a))
              have HRow := Lib.hid hrow
              have HRn := Lib.hid hrow.1
              have HNa2 := Lib.hid (HN.out a)
              clear hs hrow hx hxa hrr haa
              go_wp2
              by_cases hnd : n1 = dn
              · have hne : ((n1 : Int) != (dn : Int)) = false := by rw [hnd]; simp
                cases ha : numB a
                · rw [ha] at HNa2
                  have HF0 := Lib.hid (show q = false by rw [HQ.out]; exact book_no_acs (nums_not HXa.out ha))
                  apply wp_loose 19 [.v _, .v _, .v _, .v _, .v _, .v _, .v _, .v _, .v _, .v (.bool false), .v (.bool false), .v _, .v _, .v _, .v _, .v _, .v (.bool false), .v (.bool true), .v (.bool true)] (by kernel_rfl) (by kernel_rfl) (by kernel_rfl) (by decide) rfl
                  intro K hK
                  iterate 9 (apply OblS.val rfl; (intro w' hb _; have := (HF.out.after hb).cell; have := K1.out w' hb; go_simp; rfl))
                  apply OblS.val rfl
                  · intro w' hb _; go_simp
                  apply OblS.val rfl
                  · intro w' hb _; go_simp
                  iterate 5 (apply OblS.val (by kernel_rfl); (intro w' hb _; have := (HF.out.after hb).cell; have := K2.out w' hb; go_simp; rfl))
                  apply OblS.call 110 (by kernel_rfl)
                  · intro w' hb _; apply Exists.intro; apply And.intro; (go_simp; rfl); exact (HNa2.out w').mono fun e w2 ⟨h1, h2⟩ => ⟨h1, by subst h2; exact Below.refl _ _⟩
                  apply OblS.val (by kernel_rfl)
                  · intro w' hb _; go_simp
                  apply OblS.val rfl
                  · intro w' hb _; go_simp
                  apply OblS.nil
                  apply hK
                  intro w2 hb hH
                  have B2 := Lib.hid (nextB HB.out hb)
                  have F2 := Lib.hid (HF.out.after hb)
                  have K3 := Lib.hid fun (W : World) (h : Below w2.heap.size w2 W) => K1.out W (nextB hb h)
                  have KR := Lib.hid fun (W : World) (h : Below w2.heap.size w2 W) => HRow.out.keep (nextB hb h)
                  have cf2 := F2.out.cell
                  clear hH hK K hb
                  simp only [Act.put, List.setIfInBounds_toArray, List.set_cons_zero, List.set_cons_succ, List.drop_succ_cons, List.drop_zero]
                  go_wp2
                  exact bodyPost_ret (results_tmp rfl _ _ _) rfl ⟨by rw [HF0.out]; rfl, B2.out⟩
                · rw [ha] at HNa2
                  have HAt := Lib.hid ha
                  apply wp_loose 19 [.v _, .v _, .v _, .v _, .v _, .v _, .v _, .v _, .v _, .v (.bool false), .v (.bool false), .v _, .v _, .v _, .v _, .v _, .v (.bool true), .v (.bool false), .v (.bool false)] (by kernel_rfl) (by kernel_rfl) (by kernel_rfl) (by decide) rfl
                  intro K hK
                  iterate 9 (apply OblS.val rfl; (intro w' hb _; have := (HF.out.after hb).cell; have := K1.out w' hb; go_simp; rfl))
                  apply OblS.val rfl
                  · intro w' hb _; go_simp
                  apply OblS.val rfl
                  · intro w' hb _; go_simp
                  iterate 5 (apply OblS.val (by kernel_rfl); (intro w' hb _; have := (HF.out.after hb).cell; have := K2.out w' hb; go_simp; rfl))
                  apply OblS.call 110 (by kernel_rfl)
                  · intro w' hb _; apply Exists.intro; apply And.intro; (go_simp; rfl); exact (HNa2.out w').mono fun e w2 ⟨h1, h2⟩ => ⟨h1, by subst h2; exact Below.refl _ _⟩
                  apply OblS.val (by kernel_rfl)
                  · intro w' hb _; go_simp
                  apply OblS.val rfl
                  · intro w' hb _; go_simp
                  apply OblS.nil
                  apply hK
                  intro w2 hb hH
                  have B2 := Lib.hid (nextB HB.out hb)
                  have F2 := Lib.hid (HF.out.after hb)
                  have K3 := Lib.hid fun (W : World) (h : Below w2.heap.size w2 W) => K1.out W (nextB hb h)
                  have KR := Lib.hid fun (W : World) (h : Below w2.heap.size w2 W) => HRow.out.keep (nextB hb h)
                  have cf2 := F2.out.cell
                  clear hH hK K hb
                  simp only [Act.put, List.setIfInBounds_toArray, List.set_cons_zero, List.set_cons_succ, List.drop_succ_cons, List.drop_zero]
                  go_wp2
                  go_loopw [4] (fun v wr => ∃ j : Nat, j ≤ n1 ∧ v = .int .i64 j ∧ Below w2.heap.size w2 wr ∧ ∀ (i : Nat) x, i < j → r[i]? = some x → numB x = true) (fun v _ => n1 - (intOf v).toNat)
                  case atStart => exact ⟨0, by omega, rfl, Below.refl _ _, fun j x hj => absurd hj (by omega)⟩
                  case round =>
                    obtain ⟨j, hj, rfl, hbj, hGj⟩ := hrel
                    have HBj := Lib.hid hbj; have HGj := Lib.hid hGj
                    have cfj := (F2.out.after hbj).cell
                    have ckj := K3.out _ hbj
                    clear hbj hGj cf2
                    by_cases hjn : j < n1
                    · have hjl : j < r.length := by rw [HRn.out]; exact hjn
                      have hxj := List.getElem?_eq_getElem hjl
                      obtain ⟨x, hxx⟩ : ∃ x, x = r[j] := ⟨_, rfl⟩
                      rw [← hxx] at hxj
                      have HXj := Lib.hid hxj
                      have hsl := KR.out _ HBj.out
                      obtain ⟨b3, o3, he3⟩ := hsl.addr (by omega)
                      subst he3
                      have hcx : wr.cell? ⟨b3, o3 + j, none⟩ = some (.int .i64 x) := by have := hsl.range inC_len hxj 0 _ rfl; simpa using this
                      have HNx := Lib.hid (HN.out x)
                      clear hsl hxj hxx
                      cases hnx : numB x
                      · rw [hnx] at HNx
                        have HF0 := Lib.hid (show q = false by
                          rw [HQ.out]
                          refine book_no_row HX.out ?_
                          rw [nums_not HXj.out hnx]; simp)
                        clear hnx
                        go_wp2_with (go_at_call 110; refine (HNx.out _).mono ?_; rintro e w5 ⟨rfl, rfl⟩)
                        exact bodyPost_ret (results_tmp rfl _ _ _) rfl ⟨by rw [HF0.out]; rfl, nextB B2.out HBj.out⟩
                      · rw [hnx] at HNx
                        have HNt := Lib.hid hnx
                        clear hnx
                        go_wp2_with (go_at_call 110; refine (HNx.out _).mono ?_; rintro e w5 ⟨rfl, rfl⟩)
                        go_roundw
                        case rel =>
                          refine ⟨j + 1, by omega, by go_num, HBj.out, fun i y hi hy => ?_⟩
                          by_cases hij : i = j
                          · subst hij; rw [HXj.out] at hy; cases hy; exact HNt.out
                          · exact HGj.out i y (by omega) hy
                        case measure => first | (simp [intOf]; done) | (simp [intOf]; omega)
                    · have hje : j = n1 := by omega
                      have HNs := Lib.hid (show numsB r = true from nums_all fun i y hy => HGj.out i y (by have := (List.getElem?_eq_some_iff.1 hy).1; have := HRn.out; omega) hy)
                      have Fj := Lib.hid (F2.out.after HBj.out)
                      have hjn' : ¬ (j : Int) < (n1 : Int) := by omega
                      go_wp2
                      go_roundw
                      case rel =>
                        refine ⟨k + 1, by omega, by go_num, nextB B2.out HBj.out, Fj.out, fun i y hi hy => ?_, fun i y hi hy => ?_⟩
                        · by_cases hik : i = k
                          · subst hik; rw [HX.out] at hy; cases hy; exact ⟨HRn.out.trans hnd, HNs.out⟩
                          · exact HG1.out i y (by omega) hy
                        · by_cases hik : i = k
                          · subst hik; rw [HXa.out] at hy; cases hy; exact HAt.out
                          · exact HG2.out i y (by omega) hy
                      case measure => first | (simp [intOf]; done) | (simp [intOf]; omega)
              · have hne : ((n1 : Int) != (dn : Int)) = true := by rw [bne_iff_ne]; omega
                have HF0 := Lib.hid (show q = false by
                  rw [HQ.out]
                  refine book_no_row HX.out ?_
                  have : ¬ r.length = dnr.length := by rw [HRn.out, HDL.out]; exact hnd
                  simp [this])
                apply wp_loose 19 [.v _, .v _, .v _, .v _, .v _, .v _, .v _, .v _, .v _, .v (.bool true), .v (.bool true), .v undef, .v undef, .v undef, .v undef, .v undef, .v undef, .v undef, .v (.bool true)] (by kernel_rfl) (by kernel_rfl) (by kernel_rfl) (by decide) rfl
                intro K hK
                iterate 9 (apply OblS.val rfl; (intro w' hb _; have := (HF.out.after hb).cell; have := K1.out w' hb; go_simp; rfl))
                apply OblS.val rfl
                · intro w' hb _; go_simp
                apply OblS.val rfl
                · intro w' hb _; go_simp
                iterate 7 (apply OblS.skip (by kernel_rfl))
                apply OblS.val rfl
                · intro w' hb _; go_simp
                apply OblS.nil
                apply hK
                intro w2 hb hH
                have B2 := Lib.hid (nextB HB.out hb)
                clear hH hK K hb
                simp only [Act.put, List.setIfInBounds_toArray, List.set_cons_zero, List.set_cons_succ, List.drop_succ_cons, List.drop_zero]
                go_wp2
                exact bodyPost_ret (results_tmp rfl _ _ _) rfl ⟨by rw [HF0.out]; rfl, B2.out⟩
            · have hke : k = rn := by omega
              subst hke
              have BA := HB; have FA := HF
              have cfa := cf
              generalize wr = wa at *
              go_wp2
              go_loopw [5] (fun v wr => ∃ j : Nat, j ≤ dn ∧ v = .int .i64 j ∧ Below wa.heap.size wa wr ∧ ∀ (i : Nat) x, i < j → dnr[i]? = some x → numB x = true) (fun v _ => dn - (intOf v).toNat)
              case atStart => exact ⟨0, by omega, rfl, Below.refl _ _, fun j x hj => absurd hj (by omega)⟩
              case round =>
                obtain ⟨j, hj, rfl, hbj, hGj⟩ := hrel
                have HBj := Lib.hid hbj; have HGj := Lib.hid hGj
                have cfj := (FA.out.after hbj).cell
                clear hbj hGj cf cfa
                by_cases hjn : j < dn
                · have hjl : j < dnr.length := by rw [HDL.out]; exact hjn
                  have hxj := List.getElem?_eq_getElem hjl
                  obtain ⟨x, hxx⟩ : ∃ x, x = dnr[j] := ⟨_, rfl⟩
                  rw [← hxx] at hxj
                  have HXj := Lib.hid hxj
                  have hsl := (HD.out.keep BA.out).keep HBj.out
                  obtain ⟨b3, o3, he3⟩ := hsl.addr (by omega)
                  subst he3
                  have hcx : wr.cell? ⟨b3, o3 + j, none⟩ = some (.int .i64 x) := by have := hsl.range inC_len hxj 0 _ rfl; simpa using this
                  have HNx := Lib.hid (HN.out x)
                  clear hsl hxj hxx
                  cases hnx : numB x
                  · rw [hnx] at HNx
                    have HF0 := Lib.hid (show q = false by rw [HQ.out]; exact book_no_dns (nums_not HXj.out hnx))
                    clear hnx
                    go_wp2_with (go_at_call 110; refine (HNx.out _).mono ?_; rintro e w5 ⟨rfl, rfl⟩)
                    exact bodyPost_ret (results_tmp rfl _ _ _) rfl ⟨by rw [HF0.out]; rfl, nextB BA.out HBj.out⟩
                  · rw [hnx] at HNx
                    have HNt := Lib.hid hnx
                    clear hnx
                    go_wp2_with (go_at_call 110; refine (HNx.out _).mono ?_; rintro e w5 ⟨rfl, rfl⟩)
                    go_roundw
                    case rel =>
                      refine ⟨j + 1, by omega, by go_num, HBj.out, fun i y hi hy => ?_⟩
                      by_cases hij : i = j
                      · subst hij; rw [HXj.out] at hy; cases hy; exact HNt.out
                      · exact HGj.out i y (by omega) hy
                    case measure => first | (simp [intOf]; done) | (simp [intOf]; omega)
                · have hje : j = dn := by omega
                  have hjn' : ¬ (j : Int) < (dn : Int) := by omega
                  have HF0 := Lib.hid (show q = true by
                    rw [HQ.out]
                    refine book_yes (by simp only; rw [HRL.out]; exact c1) (by simp only; rw [HDL.out]; exact c2) (by simp only; rw [HAL.out, HRL.out]; exact C3.out) (fun i r hr => ?_) (nums_all fun i y hy => HG2.out i y (by have := (List.getElem?_eq_some_iff.1 hy).1; have := HAL.out; have := C3.out; simp only at *; omega) hy) (nums_all fun i y hy => HGj.out i y (by have := (List.getElem?_eq_some_iff.1 hy).1; have := HDL.out; simp only at *; omega) hy) C4.out
                    have := HG1.out i r (by have := (List.getElem?_eq_some_iff.1 hr).1; have := HRL.out; simp only at *; omega) hr
                    exact ⟨by simp only; rw [HDL.out]; exact this.1, this.2⟩)
                  go_wp2
                  exact bodyPost_ret (results_tmp rfl _ _ _) rfl ⟨by rw [HF0.out]; rfl, nextB BA.out HBj.out⟩
      · have HF := Lib.hid (show q = false by rw [HQ.out]; exact book_no_ac (by simp only; rw [HAL.out, HRL.out]; exact c3))
        have d3 : ((an : Int) != (rn : Int)) = true := by rw [bne_iff_ne]; omega
        clear c3
        go_enter Tryz.func62, Tryz.ntmps62
        go_wp2
        exact bodyPost_ret (results_tmp rfl _ _ _) rfl ⟨by rw [HF.out]; rfl, B0.out⟩
    · have HF := Lib.hid (show q = false by rw [HQ.out]; exact book_no_dn (by simp only; rw [HDL.out]; exact c2))
      have d2 : decide ((dn : Int) > 6) = true := by simp; omega
      go_enter Tryz.func62, Tryz.ntmps62
      go_wp2
      exact bodyPost_ret (results_tmp rfl _ _ _) rfl ⟨by rw [HF.out]; rfl, B0.out⟩
  · have HF := Lib.hid (show q = false by rw [HQ.out]; exact book_no_rows (by simp only; rw [HRL.out]; exact c1))
    have d1 : decide ((rn : Int) > 6) = true := by simp; omega
    go_enter Tryz.func62, Tryz.ntmps62
    go_wp2
    exact bodyPost_ret (results_tmp rfl _ _ _) rfl ⟨by rw [HF.out]; rfl, B0.out⟩
end Go.Proofs
namespace Go.Proofs
open Go.RowKit Go.Shelf
attribute [local go_sem ↓] Go.wp_at_zero Go.wp_at_succ

theorem dig3_key : ∀ r : Fin 113, (Lib.itoa (1000 + ((r : Nat) : Int))).drop 1 = Lib.itoa (((r : Nat) : Int) / 100) ++ Lib.itoa (((r : Nat) : Int) / 10 % 10) ++ Lib.itoa (((r : Nat) : Int) % 10) := by decide +kernel
/-- The check is its three digits. -/
theorem dig3 {s : Int} : (Lib.itoa (1000 + s % 113)).drop 1 = Lib.itoa (s % 113 / 100) ++ Lib.itoa (s % 113 / 10 % 10) ++ Lib.itoa (s % 113 % 10) := by
  obtain ⟨r, hr⟩ : ∃ r : Nat, s % 113 = r := ⟨(s % 113).toNat, by omega⟩
  have := dig3_key ⟨r, by omega⟩
  rw [hr]; exact this
/-- Every line with a line feed behind it. -/
def fedL (ls : List (List UInt8)) : List UInt8 := (ls.map (· ++ [10])).flatten
theorem fedL_snoc (ls : List (List UInt8)) (x : List UInt8) : fedL (ls ++ [x]) = fedL ls ++ x ++ [10] := by simp [fedL]
theorem join_fed : ∀ (ls : List (List UInt8)), ls ≠ [] → Lib.join ls [10] ++ [10] = fedL ls
  | [], h => absurd rfl h
  | x :: r, _ => by
    rw [Lib.join_cons]
    induction r generalizing x with
    | nil => simp [Lib.joinTail, fedL]
    | cons y t ih =>
      have := ih y (by simp)
      simp only [Lib.joinTail, fedL, List.map_cons, List.flatten_cons, List.append_assoc, List.cons_append, List.nil_append] at this ⊢
      rw [this]
theorem line3 (a b c : List UInt8) : lineL [a, b, c] = a ++ [32] ++ b ++ [32] ++ c := by
  simp [lineL, Lib.join_cons, Lib.joinTail]
theorem line4 (a b c d : List UInt8) : lineL [a, b, c, d] = a ++ [32] ++ b ++ [32] ++ c ++ [32] ++ d := by
  simp [lineL, Lib.join_cons, Lib.joinTail]
theorem line2 (a b : List UInt8) : lineL [a, b] = a ++ [32] ++ b := by
  simp [lineL, Lib.join_cons, Lib.joinTail]
theorem line_snoc (ws : List (List UInt8)) (h : ws ≠ []) (x : List UInt8) : lineL (ws ++ [x]) = lineL ws ++ [32] ++ x := by
  cases ws with
  | nil => exact absurd rfl h
  | cons a r => simp [lineL, Lib.join_cons, Lib.joinTail]
/-- What ref's Print comes to is the text. -/
theorem textF_fed (ps : List Pe) (ls : List La) : textF ps ls = fedL (linesF ps ls) ++ (wEnd ++ [32] ++ Lib.itoa (sumT (linesF ps ls) % 113 / 100) ++ Lib.itoa (sumT (linesF ps ls) % 113 / 10 % 10) ++ Lib.itoa (sumT (linesF ps ls) % 113 % 10)) ++ [10] := by
  unfold textF
  rw [join_fed _ (by simp), fedL_snoc, endLF, line2, chkT, dig3]
  simp
end Go.Proofs
namespace Go.Proofs
open Go.RowKit Go.Shelf
attribute [local go_sem ↓] Go.wp_at_zero Go.wp_at_succ

theorem mem10 {s : Int} (h0 : 0 ≤ s) (h1 : s ≤ 1023) : membersL s = memTo s 10 := by
  have a : hasB s 10 = false := by simp [hasB]; omega
  have b : hasB s 11 = false := by simp [hasB]; omega
  unfold membersL
  rw [memTo_succ, memTo_succ, a, b]; simp
/-- A landing's line as far as the first k numbers. -/
def landK (g c w : Int) (k : Nat) : List UInt8 := lineL ([wLanding, Lib.itoa g, Lib.itoa c] ++ (ints (memTo w k)).map Lib.itoa)
theorem landK_zero (g c w : Int) : landK g c w 0 = wLanding ++ [32] ++ Lib.itoa g ++ [32] ++ Lib.itoa c := by
  unfold landK; simp only [memTo, List.range_zero, List.filter_nil, ints, List.map_nil, List.append_nil]; exact line3 _ _ _
theorem landK_yes (g c w : Int) (k : Nat) (h : hasB w k = true) : landK g c w (k + 1) = landK g c w k ++ [32] ++ Lib.itoa k := by
  unfold landK
  rw [memTo_succ, h]
  simp only [if_true, ints, List.map_append, List.map_cons, List.map_nil, ← List.append_assoc]
  exact line_snoc _ (by simp) _
theorem landK_no (g c w : Int) (k : Nat) (h : hasB w k = false) : landK g c w (k + 1) = landK g c w k := by
  unfold landK
  rw [memTo_succ, h]; simp
theorem landK_len {g c w : Int} (hg : 0 ≤ g ∧ g ≤ 1000000) (hc : 0 ≤ c ∧ c ≤ 1000000) (k : Nat) (hk : k ≤ 10) : (landK g c w k).length ≤ 300 := line_len _ (by
  have h1 := itoa7 hg
  have h2 := itoa7 hc
  intro x hx
  simp only [List.mem_append, List.mem_cons, List.not_mem_nil, or_false, List.mem_map] at hx
  rcases hx with (rfl | rfl | rfl) | ⟨y, hy, rfl⟩
  · simp [wLanding]
  · omega
  · omega
  · simp only [ints, List.mem_map, memTo, List.mem_filter, List.mem_range] at hy
    obtain ⟨i, hi, rfl⟩ := hy
    have := itoa7 (n := i) (by omega)
    omega) (by have := memTo_len w k; simp [ints]; omega)

theorem fedL_len : ∀ (ls : List (List UInt8)) (B : Nat), (∀ l ∈ ls, l.length ≤ B) → (fedL ls).length ≤ ls.length * (B + 1)
  | [], _, _ => by simp [fedL]
  | x :: r, B, h => by
    have h1 := h x (by simp)
    have h2 := fedL_len r B (fun l hl => h l (by simp [hl]))
    have e : fedL (x :: r) = x ++ [10] ++ fedL r := by simp [fedL]
    rw [e]
    simp only [List.length_append, List.length_cons, List.length_nil, Nat.add_mul]
    omega
theorem chk_step2 (T S x k : Int) (hT : 0 ≤ T ∧ T ≤ 500000000000000000) (hS : 0 ≤ S ∧ S ≤ 500000000000000000) (hx : 0 ≤ x ∧ x ≤ 255) (hk : 0 ≤ k ∧ k ≤ 100000) :
    wrap64 (T + S + wrap64 (wrap64 x * wrap64 (k + 1))) = T + (S + x * (0 + k + 1)) := by
  rw [w64 (x := k + 1) (by omega) (by omega)]
  exact chk_step T S x k hT hS hx hk
theorem digs_key : ∀ r : Fin 113, wrap64 (((r : Nat) : Int)) = ((r : Nat) : Int) ∧ (((r : Nat) : Int)).tdiv 100 = (((r : Nat) / 100 : Nat) : Int) ∧ (((r : Nat) : Int)).tdiv 10 = (((r : Nat) / 10 : Nat) : Int) ∧ ((((r : Nat) / 10 : Nat) : Int)).tmod 10 = (((r : Nat) / 10 % 10 : Nat) : Int) ∧ (((r : Nat) : Int)).tmod 10 = (((r : Nat) % 10 : Nat) : Int) ∧
    wrap64 (((r : Nat) / 100 : Nat) : Int) = (((r : Nat) / 100 : Nat) : Int) ∧ wrap64 (((r : Nat) / 10 : Nat) : Int) = (((r : Nat) / 10 : Nat) : Int) ∧ wrap64 (((r : Nat) / 10 % 10 : Nat) : Int) = (((r : Nat) / 10 % 10 : Nat) : Int) ∧ wrap64 (((r : Nat) % 10 : Nat) : Int) = (((r : Nat) % 10 : Nat) : Int) := by decide +kernel
theorem digs (r : Nat) (h : r < 113) : wrap64 (r : Int) = (r : Int) ∧ (r : Int).tdiv 100 = ((r / 100 : Nat) : Int) ∧ (r : Int).tdiv 10 = ((r / 10 : Nat) : Int) ∧ (((r / 10 : Nat) : Int)).tmod 10 = ((r / 10 % 10 : Nat) : Int) ∧ (r : Int).tmod 10 = ((r % 10 : Nat) : Int) ∧
    wrap64 ((r / 100 : Nat) : Int) = ((r / 100 : Nat) : Int) ∧ wrap64 ((r / 10 : Nat) : Int) = ((r / 10 : Nat) : Int) ∧ wrap64 ((r / 10 % 10 : Nat) : Int) = ((r / 10 % 10 : Nat) : Int) ∧ wrap64 ((r % 10 : Nat) : Int) = ((r % 10 : Nat) : Int) := digs_key ⟨r, h⟩
set_option maxHeartbeats 2000000 in
theorem refPrint_c (s : Sv) (hp : ∀ p ∈ s.ps, PeT p) (hl : ∀ l ∈ s.ls, LaT l) (hl9 : ∀ l ∈ s.ls, l.w ≤ 1023) (hpn : s.pn ≤ 1000) (hln : s.ln ≤ 1000) (w : World) (hi : s.In w) :
    Calls Tryz.prog 72 #[s.val] w fun e w' => e = .returned (.string (bs (textF s.ps s.ls))) ∧ Below w.heap.size w w' := by
  obtain ⟨pA, lA, pn, pc, ln, lc, ps, ls⟩ := s
  obtain ⟨hp', hl'⟩ := hi
  simp only [Sv.val] at *
  have HN := Lib.hid hp'.1; have HM := Lib.hid hl'.1
  have HPT := Lib.hid hp; have HLT := Lib.hid hl; have HL9 := Lib.hid hl9
  obtain ⟨w1, hw1⟩ : ∃ w1, w1 = w.alloc (.cells #[.slice pA pn pc, .slice lA ln lc] 25) := ⟨_, rfl⟩
  have B1 := Lib.hid (show Below w.heap.size w w1 from by rw [hw1]; exact newB (Below.refl _ _) _)
  have F1 := Lib.hid (show Has w1 w.heap.size 25 #[.slice pA pn pc, .slice lA ln lc] from by rw [hw1]; exact Has.new w 25 _)
  have HP := Lib.hid (hp'.keep B1.out); have HL := Lib.hid (hl'.keep B1.out)
  have HW := Lib.hid hw1
  clear hp' hl' hp hl hl9 hw1
  go_enter Tryz.func72, Tryz.ntmps72
  go_wp2
  rw [← HW.out]
  clear HW
  have HDn := Lib.hid fun (W : World) => decimal_c pn (by omega) W
  have HDm := Lib.hid fun (W : World) => decimal_c ln (by omega) W
  have z1 := itoa7 (n := pn) (by omega)
  have z2 := itoa7 (n := ln) (by omega)
  have s1 : (bs (Lib.itoa pn)).size ≤ 7 := by rw [bs_size]; exact z1
  have s2 : (bs (Lib.itoa ln)).size ≤ 7 := by rw [bs_size]; exact z2
  obtain ⟨t1, ht1⟩ : ∃ t, t = wSeason ++ [32] ++ Lib.itoa pn := ⟨_, rfl⟩
  obtain ⟨t2, ht2⟩ : ∃ t, t = t1 ++ [32] := ⟨_, rfl⟩
  have k1 : (⟨#[115, 101, 97, 115, 111, 110, 32]⟩ : ByteArray) ++ bs (Lib.itoa pn) = bs t1 := by rw [ht1]; exact bs_app _ _
  have k2 : bs t1 ++ (⟨#[32]⟩ : ByteArray) = bs t2 := by rw [ht2]; exact bs_app _ [32]
  have k3 : bs t2 ++ bs (Lib.itoa ln) = bs (headL pn ln) := by rw [bs_app, headL, line3, ht2, ht1]
  have s3 : (bs t1).size ≤ 20 := by rw [bs_size, ht1]; simp [wSeason]; omega
  have s4 : (bs t2).size ≤ 20 := by rw [bs_size, ht2, ht1]; simp [wSeason]; omega
  clear ht1 ht2
  apply wp_loose 12 [.v _, .v _, .v _, .v _, .v (.string (bs t1)), .v (.string (bs t2)), .v _, .v _, .v _, .v _, .v (.string (bs (headL pn ln))), .r (NewS w1.heap.size 1 [headL pn ln])] (by kernel_rfl) (by kernel_rfl) (by kernel_rfl) (by decide) rfl
  intro K hK
  apply OblS.val rfl
  · intro w' hb _; go_simp; rfl
  apply OblS.val rfl
  · intro w' hb _; have := (F1.out.after hb).cell; go_simp; rfl
  apply OblS.val rfl
  · intro w' hb _; go_simp; rfl
  apply OblS.call (v := .string (bs (Lib.itoa pn))) 121 rfl
  · intro w' hb _; apply Exists.intro; apply And.intro; (go_simp; rfl); exact HDn.out w'
  apply OblS.val rfl
  · intro w' hb _; first | (go_simp; done) | (go_simp; omega)
  apply OblS.val rfl
  · intro w' hb _; first | (go_simp; done) | (go_simp; omega)
  apply OblS.val rfl
  · intro w' hb _; go_simp; rfl
  apply OblS.val rfl
  · intro w' hb _; have := (F1.out.after hb).cell; go_simp; rfl
  apply OblS.val rfl
  · intro w' hb _; go_simp; rfl
  apply OblS.call (v := .string (bs (Lib.itoa ln))) 121 rfl
  · intro w' hb _; apply Exists.intro; apply And.intro; (go_simp; rfl); exact HDm.out w'
  apply OblS.val rfl
  · intro w' hb _; first | (go_simp; done) | (go_simp; omega)
  refine OblS.run NewS.stable (by kernel_rfl) (fun w' hb _ => ⟨_, _, (by kernel_rfl), NewS.mk hb.size, newB (Below.refl _ _) _⟩) ?_
  intro v10
  apply OblS.nil
  apply hK
  intro w2 hb hH
  obtain ⟨q, rfl, hqb, hq⟩ := hH _ (List.mem_cons_self ..)
  have O2 := Lib.hid (own_strs (base := w1.heap.size) (n := 1) [headL pn ln] hq hqb rfl (by omega) rfl)
  have B2 := Lib.hid hb
  have c2 := (F1.out.after hb).cell
  clear hH hK K hq hb hqb k1 k2 k3 s1 s2 s3 s4 z1 z2
  simp only [Act.put, List.setIfInBounds_toArray, List.set_cons_zero, List.set_cons_succ, List.drop_succ_cons, List.drop_zero]
  go_wp2
  go_loopw [3, 4] (fun v i wr => ∃ k : Nat, k ≤ pn ∧ i = .int .i64 k ∧ Own eT w1.heap.size v (headL pn ln :: (ps.take k).map perL) wr ∧ Below w1.heap.size w1 wr) (fun _ i _ => pn - (intOf i).toNat)
  case atStart => exact ⟨0, by omega, rfl, by simpa using O2.out, B2.out⟩
  case round =>
    obtain ⟨k, hk, rfl, hO, hB⟩ := hrel
    have HB := Lib.hid hB; have HO := Lib.hid hO
    have cb := (F1.out.after hB).cell
    clear hO hB
    by_cases hkn : k < pn
    · have hkl : k < ps.length := by rw [HN.out]; exact hkn
      obtain ⟨b, o, he⟩ := HP.out.addr (by omega)
      have hx := List.getElem?_eq_getElem hkl
      have HT := Lib.hid (show (ps.take (k + 1)).map perL = (ps.take k).map perL ++ [perL ps[k]] by rw [← List.take_append_getElem hkl, List.map_append]; rfl)
      obtain ⟨x, hxx⟩ : ∃ x, x = ps[k] := ⟨_, rfl⟩
      rw [← hxx] at hx HT
      have HPX := Lib.hid (HPT.out x (List.mem_of_getElem? hx))
      subst he
      have hR := Lib.hid ((HP.out.keep HB.out).range Pe.cs_len hx)
      obtain ⟨p, d, f⟩ := x
      replace hR := Lib.hid (show wr.rangeAt b (o + k * 3) [.int .i64 p, .int .i64 d, .int .i64 f] from hR.out)
      obtain ⟨hp1, hd1, hf1⟩ := HPX.out
      simp only at hp1 hd1 hf1
      obtain ⟨pp, rfl⟩ : ∃ pp : Nat, p = pp := ⟨p.toNat, by omega⟩
      obtain ⟨dd, rfl⟩ : ∃ dd : Nat, d = dd := ⟨d.toNat, by omega⟩
      clear hx hxx
      go_wp2_with (refine wpList_load_mid rfl 49 _ rfl b (o + k * 3) rfl _ _ hR.out Tryz.underlying49 rfl (by kernel_rfl) ?_)
      obtain ⟨w3, hw3⟩ : ∃ w3, w3 = wr.alloc (.cells #[.int .i64 pp, .int .i64 dd, .int .i64 f] 49) := ⟨_, rfl⟩
      have B3 := Lib.hid (show Below wr.heap.size wr w3 from by rw [hw3]; exact newB (Below.refl _ _) _)
      have F3 := Lib.hid (show Has w3 wr.heap.size 49 #[.int .i64 pp, .int .i64 dd, .int .i64 f] from by rw [hw3]; exact Has.new wr 49 _)
      rw [← hw3]
      have B13 := Lib.hid (nextB HB.out B3.out)
      have O3 := Lib.hid (HO.out.keep B3.out)
      have D1 := Lib.hid fun (W : World) => decimal_c pp (by omega) W
      have D2 := Lib.hid fun (W : World) => decimal_c dd (by omega) W
      have z1 := itoa7 hp1; have z2 := itoa7 hd1; have z3 := wordF_len f
      have s1 : (bs (Lib.itoa pp)).size ≤ 7 := by rw [bs_size]; exact z1
      have s2 : (bs (Lib.itoa dd)).size ≤ 7 := by rw [bs_size]; exact z2
      have s5 : (bs (wordF f)).size ≤ 7 := by rw [bs_size]; exact z3
      obtain ⟨t1, ht1⟩ : ∃ t, t = wPerson ++ [32] ++ Lib.itoa pp := ⟨_, rfl⟩
      obtain ⟨t2, ht2⟩ : ∃ t, t = t1 ++ [32] := ⟨_, rfl⟩
      obtain ⟨t3, ht3⟩ : ∃ t, t = t2 ++ Lib.itoa dd := ⟨_, rfl⟩
      obtain ⟨t4, ht4⟩ : ∃ t, t = t3 ++ [32] := ⟨_, rfl⟩
      have k1 : (⟨#[112, 101, 114, 115, 111, 110, 32]⟩ : ByteArray) ++ bs (Lib.itoa pp) = bs t1 := by rw [ht1]; exact bs_app _ _
      have k2 : bs t1 ++ (⟨#[32]⟩ : ByteArray) = bs t2 := by rw [ht2]; exact bs_app _ [32]
      have k3 : bs t2 ++ bs (Lib.itoa dd) = bs t3 := by rw [ht3]; exact bs_app _ _
      have k4 : bs t3 ++ (⟨#[32]⟩ : ByteArray) = bs t4 := by rw [ht4]; exact bs_app _ [32]
      have k5 : bs t4 ++ bs (wordF f) = bs (perL ⟨pp, dd, f⟩) := by rw [bs_app, perL, line4, ht4, ht3, ht2, ht1]
      have s3 : (bs t1).size ≤ 40 ∧ (bs t2).size ≤ 40 ∧ (bs t3).size ≤ 40 ∧ (bs t4).size ≤ 40 := by
        simp only [bs_size, ht4, ht3, ht2, ht1]; simp [wPerson]; omega
      obtain ⟨s31, s32, s33, s34⟩ := s3
      clear hw3 ht1 ht2 ht3 ht4
      apply wp_loose 16 [.v _, .v _, .v _, .v _, .v (.string (bs t1)), .v (.string (bs t2)), .v _, .v _, .v _, .v (.string (bs t3)), .v (.string (bs t4)), .v _, .v _, .v _, .v (.string (bs (perL ⟨pp, dd, f⟩))), .r (NewS w1.heap.size 1 [perL ⟨pp, dd, f⟩])] (by kernel_rfl) (by kernel_rfl) (by kernel_rfl) (by decide) rfl
      intro K hK
      iterate 3 (apply OblS.val rfl; (intro w' hb _; have := (F3.out.after hb).cell; go_simp; rfl))
      apply OblS.call (v := .string (bs (Lib.itoa pp))) 121 rfl
      · intro w' hb _; apply Exists.intro; apply And.intro; (go_simp; rfl); exact D1.out w'
      iterate 2 (apply OblS.val rfl; (intro w' hb _; first | (go_simp; done) | (go_simp; omega)))
      iterate 2 (apply OblS.val rfl; (intro w' hb _; have := (F3.out.after hb).cell; go_simp; rfl))
      apply OblS.call (v := .string (bs (Lib.itoa dd))) 121 rfl
      · intro w' hb _; apply Exists.intro; apply And.intro; (go_simp; rfl); exact D2.out w'
      iterate 2 (apply OblS.val rfl; (intro w' hb _; first | (go_simp; done) | (go_simp; omega)))
      iterate 2 (apply OblS.val rfl; (intro w' hb _; have := (F3.out.after hb).cell; go_simp; rfl))
      apply OblS.call (v := .string (bs (wordF f))) 122 rfl
      · intro w' hb _; apply Exists.intro; apply And.intro; (go_simp; rfl); exact word_c f hf1 w'
      apply OblS.val rfl
      · intro w' hb _; first | (go_simp; done) | (go_simp; omega)
      refine OblS.run NewS.stable (by kernel_rfl) (fun w' hb _ => ⟨_, _, (by kernel_rfl), NewS.mk (Nat.le_trans B13.out.size hb.size), newB (Below.refl _ _) _⟩) ?_
      intro v10
      apply OblS.nil
      apply hK
      intro w4 hb hH
      obtain ⟨q, rfl, hqb, hq⟩ := hH _ (List.mem_cons_self ..)
      have HQ := Lib.hid hq
      have B4 := Lib.hid (nextB B13.out hb)
      have O4 := Lib.hid (O3.out.keep hb)
      have HLn := Lib.hid (show (headL pn ln :: (ps.take k).map perL).length ≤ 20000000 by simp; omega)
      clear hH hK K hq hb hqb k1 k2 k3 k4 k5 s1 s2 s5 s31 s32 s33 s34 z1 z2 z3
      simp only [Act.put, List.setIfInBounds_toArray, List.set_cons_zero, List.set_cons_succ, List.drop_succ_cons, List.drop_zero]
      go_wp2_with (at_builtin; refine El.app1 eT_ok rfl _ _ rfl w1.heap.size u3 _ rfl O4.out HLn.out q (perL ⟨pp, dd, f⟩) rfl HQ.out B4.out.size ?_; intro v5 w5 ho5 hb5 _; have O5 := Lib.hid ho5; have B5 := Lib.hid (B4.out.trans hb5); clear ho5 hb5)
      go_roundw
      case rel => exact ⟨k + 1, by omega, by go_num, by rw [HT.out]; exact O5.out, B5.out⟩
      case measure => simp [intOf]; omega
    · have hke : k = pn := by omega
      subst hke
      have OA := Lib.hid (show Own eT w1.heap.size u3 (headL k ln :: ps.map perL) wr by have h := HO.out; rwa [List.take_of_length_le (by rw [HN.out]; exact Nat.le_refl _)] at h)
      have BA := HB
      clear HO HB O2 B2 c2
      generalize wr = wa at *
      go_wp2
      go_loopw [3, 6] (fun v i wr => ∃ j : Nat, j ≤ ln ∧ i = .int .i64 j ∧ Own eT w1.heap.size v (headL k ln :: (ps.map perL ++ (ls.take j).map landL)) wr ∧ Below w1.heap.size w1 wr) (fun _ i _ => ln - (intOf i).toNat)
      case atStart => exact ⟨0, by omega, rfl, by simpa using OA.out, BA.out⟩
      case round =>
        obtain ⟨j, hj, rfl, hO, hB⟩ := hrel
        have HB := Lib.hid hB; have HO := Lib.hid hO
        have cbj := (F1.out.after hB).cell
        clear hO hB OA BA cb
        by_cases hjn : j < ln
        · have hjl : j < ls.length := by rw [HM.out]; exact hjn
          obtain ⟨b, o, he⟩ := HL.out.addr (by omega)
          have hx := List.getElem?_eq_getElem hjl
          have HT := Lib.hid (show (ls.take (j + 1)).map landL = (ls.take j).map landL ++ [landL ls[j]] by rw [← List.take_append_getElem hjl, List.map_append]; rfl)
          obtain ⟨x, hxx⟩ : ∃ x, x = ls[j] := ⟨_, rfl⟩
          rw [← hxx] at hx HT
          have HLX := Lib.hid (HLT.out x (List.mem_of_getElem? hx))
          have hm9 := HL9.out x (List.mem_of_getElem? hx)
          subst he
          have hR := Lib.hid ((HL.out.keep HB.out).range La.cs_len hx)
          obtain ⟨g, c, m⟩ := x
          replace hR := Lib.hid (show wr.rangeAt b (o + j * 3) [.int .i64 g, .int .i64 c, .int .i64 m] from hR.out)
          obtain ⟨hg1, hc1, hm1⟩ := HLX.out
          simp only at hg1 hc1 hm1 hm9
          obtain ⟨gg, rfl⟩ : ∃ gg : Nat, g = gg := ⟨g.toNat, by omega⟩
          obtain ⟨cc, rfl⟩ : ∃ cc : Nat, c = cc := ⟨c.toNat, by omega⟩
          clear hx hxx
          go_wp2_with (refine wpList_load_mid rfl 44 _ rfl b (o + j * 3) rfl _ _ hR.out Tryz.underlying44 rfl (by kernel_rfl) ?_)
          obtain ⟨w3, hw3⟩ : ∃ w3, w3 = wr.alloc (.cells #[.int .i64 gg, .int .i64 cc, .int .i64 m] 44) := ⟨_, rfl⟩
          have B3 := Lib.hid (show Below wr.heap.size wr w3 from by rw [hw3]; exact newB (Below.refl _ _) _)
          have F3 := Lib.hid (show Has w3 wr.heap.size 44 #[.int .i64 gg, .int .i64 cc, .int .i64 m] from by rw [hw3]; exact Has.new wr 44 _)
          rw [← hw3]
          have B13 := Lib.hid (nextB HB.out B3.out)
          have O3 := Lib.hid (HO.out.keep B3.out)
          have D1 := Lib.hid fun (W : World) => decimal_c gg (by omega) W
          have D2 := Lib.hid fun (W : World) => decimal_c cc (by omega) W
          have z1 := itoa7 hg1; have z2 := itoa7 hc1
          have s1 : (bs (Lib.itoa gg)).size ≤ 7 := by rw [bs_size]; exact z1
          have s2 : (bs (Lib.itoa cc)).size ≤ 7 := by rw [bs_size]; exact z2
          obtain ⟨t1, ht1⟩ : ∃ t, t = wLanding ++ [32] ++ Lib.itoa gg := ⟨_, rfl⟩
          obtain ⟨t2, ht2⟩ : ∃ t, t = t1 ++ [32] := ⟨_, rfl⟩
          have k1 : (⟨#[108, 97, 110, 100, 105, 110, 103, 32]⟩ : ByteArray) ++ bs (Lib.itoa gg) = bs t1 := by rw [ht1]; exact bs_app _ _
          have k2 : bs t1 ++ (⟨#[32]⟩ : ByteArray) = bs t2 := by rw [ht2]; exact bs_app _ [32]
          have k3 : bs t2 ++ bs (Lib.itoa cc) = bs (landK gg cc m 0) := by rw [bs_app, landK_zero, ht2, ht1]
          have s31 : (bs t1).size ≤ 40 := by rw [bs_size, ht1]; simp [wLanding]; omega
          have s32 : (bs t2).size ≤ 40 := by rw [bs_size, ht2, ht1]; simp [wLanding]; omega
          clear hw3 ht1 ht2
          apply wp_loose 9 [.v _, .v _, .v _, .v (.string (bs t1)), .v (.string (bs t2)), .v _, .v _, .v _, .v (.string (bs (landK gg cc m 0)))] (by kernel_rfl) (by kernel_rfl) (by kernel_rfl) (by decide) rfl
          intro K hK
          iterate 2 (apply OblS.val rfl; (intro w' hb _; have := (F3.out.after hb).cell; go_simp; rfl))
          apply OblS.call (v := .string (bs (Lib.itoa gg))) 121 rfl
          · intro w' hb _; apply Exists.intro; apply And.intro; (go_simp; rfl); exact D1.out w'
          iterate 2 (apply OblS.val rfl; (intro w' hb _; first | (go_simp; done) | (go_simp; omega)))
          iterate 2 (apply OblS.val rfl; (intro w' hb _; have := (F3.out.after hb).cell; go_simp; rfl))
          apply OblS.call (v := .string (bs (Lib.itoa cc))) 121 rfl
          · intro w' hb _; apply Exists.intro; apply And.intro; (go_simp; rfl); exact D2.out w'
          apply OblS.val rfl
          · intro w' hb _; first | (go_simp; done) | (go_simp; omega)
          apply OblS.nil
          apply hK
          intro w4 hb hH
          have B4 := Lib.hid hb
          have c4 := (F3.out.after hb).cell
          clear hH hK K hb k1 k2 k3 s1 s2 s31 s32 z1 z2
          simp only [Act.put, List.setIfInBounds_toArray, List.set_cons_zero, List.set_cons_succ, List.drop_succ_cons, List.drop_zero]
          go_wp2
          go_loopw [8, 9] (fun v i wr => ∃ t : Nat, t ≤ 10 ∧ i = .int .i64 t ∧ v = .string (bs (landK gg cc m t)) ∧ Below w3.heap.size w3 wr) (fun _ i _ => 10 - (intOf i).toNat)
          case atStart => exact ⟨0, by omega, rfl, rfl, B4.out⟩
          case round =>
            obtain ⟨t, ht, rfl, rfl, hBt⟩ := hrel
            have HBt := Lib.hid hBt
            have ct := (F3.out.after hBt).cell
            clear hBt c4 B4
            by_cases ht10 : t < 10
            · have hti : (t : Int) < 10 := by omega
              have HH := Lib.hid fun (W : World) => refHas_c m (by omega) (by omega) t (by omega) W
              cases hh : hasB m t
              · rw [hh] at HH
                have HKn := Lib.hid (landK_no gg cc m t hh)
                clear hh
                go_wp2_with (go_at_call 36; refine (HH.out _).mono ?_; rintro e w5 ⟨rfl, rfl⟩)
                go_roundw
                case rel => exact ⟨t + 1, by omega, by go_num, by rw [HKn.out], HBt.out⟩
                case measure => first | (simp [intOf]; done) | (simp [intOf]; omega)
              · rw [hh] at HH
                have HKy := Lib.hid (landK_yes gg cc m t hh)
                have hl1 := landK_len (w := m) hg1 hc1 t (by omega)
                have z1 := itoa7 (n := t) (by omega)
                have DT := Lib.hid fun (W : World) => decimal_c t (by omega) W
                clear hh
                generalize landK gg cc m t = tx at *
                obtain ⟨ty, hty⟩ : ∃ ty, ty = landK gg cc m (t + 1) := ⟨_, rfl⟩
                rw [← hty] at HKy
                have HTy := Lib.hid hty
                clear hty
                obtain ⟨tz, htz⟩ : ∃ tz, tz = tx ++ [32] := ⟨_, rfl⟩
                have k1 : bs tx ++ (⟨#[32]⟩ : ByteArray) = bs tz := by rw [htz]; exact bs_app _ [32]
                have k2 : bs tz ++ bs (Lib.itoa t) = bs ty := by rw [bs_app, HKy.out, htz]
                have s1 : (bs tx).size ≤ 400 := by rw [bs_size]; omega
                have s2 : (bs tz).size ≤ 400 := by rw [bs_size, htz]; simp; omega
                have s3 : (bs (Lib.itoa t)).size ≤ 7 := by rw [bs_size]; exact z1
                have s4 : ¬ 9223372036854775807 < (bs tx).size + 1 := by omega
                have s5 : ¬ 9223372036854775807 < (bs tz).size + (bs (Lib.itoa t)).size := by omega
                clear htz
                go_wp2_with (first
                  | (go_at_call 36; refine (HH.out _).mono ?_; rintro e w5 ⟨rfl, rfl⟩)
                  | (go_at_call 121; refine (DT.out _).mono ?_; rintro e w6 ⟨rfl, hb⟩; have B6 := Lib.hid (nextB HBt.out hb); clear hb))
                go_roundw
                case rel => exact ⟨t + 1, by omega, by go_num, by rw [HTy.out], B6.out⟩
                case measure => first | (simp [intOf]; done) | (simp [intOf]; omega)
            · have hte : t = 10 := by omega
              subst hte
              have HKL := Lib.hid (show landK gg cc m 10 = landL ⟨gg, cc, m⟩ by unfold landL landW landK; rw [mem10 (by omega) hm9])
              rw [HKL.out]
              have O9 := Lib.hid (O3.out.keep HBt.out)
              have B9 := Lib.hid (nextB B13.out HBt.out)
              have HLn := Lib.hid (show (headL k ln :: (ps.map perL ++ (ls.take j).map landL)).length ≤ 20000000 by have := HN.out; simp; omega)
              generalize landL ⟨gg, cc, m⟩ = lx at *
              go_wp2_with (at_builtin; refine El.app1 eT_ok rfl _ _ rfl w1.heap.size u3 _ rfl (O9.out.alloc (.cells #[.string (bs lx)] 9)) HLn.out wr.heap.size lx rfl (Has.new wr 9 _) (newB B9.out _).size ?_; intro v7 w7 ho7 hb7 _; have O7 := Lib.hid ho7; have B7 := Lib.hid ((newB B9.out (.cells #[.string (bs lx)] 9)).trans hb7); clear ho7 hb7)
              go_roundw
              case rel => exact ⟨j + 1, by omega, by go_num, by rw [HT.out, ← List.append_assoc]; exact O7.out, B7.out⟩
              case measure => simp [intOf]; omega
        · have hje : j = ln := by omega
          subst hje
          have HLF := Lib.hid (show linesF ps ls = headL k j :: (ps.map perL ++ ls.map landL) by unfold linesF; rw [HN.out, HM.out])
          have hO2 := HO.out
          rw [List.take_of_length_le (by rw [HM.out]; exact Nat.le_refl _), ← HLF.out] at hO2
          have hb1 := linesF_len HPT.out HLT.out (by rw [HN.out]; exact hpn) (by rw [HM.out]; exact hln)
          have HLL := Lib.hid (show (linesF ps ls).length = k + j + 1 by unfold linesF; have := HN.out; have := HM.out; simp; omega)
          have HTF := Lib.hid (textF_fed ps ls)
          generalize linesF ps ls = LF at *
          clear HLF
          obtain ⟨A8, c8, rfl, hsl, _⟩ := Own.sl hO2
          have HS := Lib.hid hsl
          have HR := Lib.hid (show ∀ l ∈ LF, l.length ≤ 300 from hb1)
          have BW := Lib.hid (nextB B1.out HB.out)
          obtain ⟨n, hn⟩ : ∃ n, n = LF.length := ⟨_, rfl⟩
          rw [← hn]
          rw [← hn] at HS
          have HNn := Lib.hid hn
          have hn2 : n ≤ 2001 := by rw [hn, HLL.out]; omega
          clear hn hsl hb1 hO2 HO HB HLL HP HL HPT HLT HL9 HN HM B1 F1
          generalize wr = wb at *
          go_wp2
          go_loop [10, 11, 12] (fun t s i => ∃ q : Nat, q ≤ n ∧ i = .int .i64 q ∧ s = .int .i64 (sumT (LF.take q)) ∧ t = .string (bs (fedL (LF.take q)))) (fun _ _ i => n - (intOf i).toNat)
          case atStart => exact ⟨0, by omega, rfl, rfl, rfl⟩
          case round =>
            obtain ⟨q, hq, rfl, rfl, rfl⟩ := hrel
            by_cases hqn : q < n
            · have hql : q < LF.length := by rw [← HNn.out]; exact hqn
              have hx := List.getElem?_eq_getElem hql
              have hxl := HR.out _ (List.getElem_mem hql)
              have HT := Lib.hid (List.take_append_getElem hql)
              obtain ⟨x, hxx⟩ : ∃ x, x = LF[q] := ⟨_, rfl⟩
              rw [← hxx] at hx HT hxl
              obtain ⟨b, o, he⟩ := HS.out.addr (by omega)
              subst he
              have hcell : wb.cell? ⟨b, o + q, none⟩ = some (.string (bs x)) := by have := (HS.out.range strC_len hx) 0 _ rfl; simpa using this
              have HTs := Lib.hid (show sumT (LF.take (q + 1)) = sumT (LF.take q) + sumP 0 x by rw [← HT.out, sumT_snoc])
              have HTf := Lib.hid (show fedL (LF.take (q + 1)) = fedL (LF.take q) ++ x ++ [10] by rw [← HT.out, fedL_snoc])
              have HTk := Lib.hid (sumT_bd (ls := LF.take q) (fun l hl => by have := HR.out l (List.mem_of_mem_take hl); omega) (by simp; omega))
              have HFk := Lib.hid (fedL_len (LF.take q) 300 (fun l hl => HR.out l (List.mem_of_mem_take hl)))
              have HXL := Lib.hid hxl
              have hsz : ((bs x).size : Int) = x.length := by rw [bs_size]
              obtain ⟨m, hm⟩ : ∃ m, m = x.length := ⟨_, rfl⟩
              rw [← hm] at hsz hxl
              have HM := Lib.hid hm
              clear hx hxx hm
              go_wp2
              go_loop [11, 13] (fun s i => ∃ j : Nat, j ≤ m ∧ i = .int .i64 j ∧ s = .int .i64 (sumT (LF.take q) + sumP 0 (x.take j))) (fun _ i => m - (intOf i).toNat)
              case atStart => exact ⟨0, by omega, rfl, by simp [sumP]⟩
              case round =>
                obtain ⟨j, hj, rfl, rfl⟩ := hrel
                by_cases hjm : j < m
                · have hjl : j < x.length := by rw [← HM.out]; exact hjm
                  have hjs : j < (bs x).size := by rw [bs_size]; exact hjl
                  have HJ := Lib.hid (List.take_append_getElem hjl)
                  obtain ⟨y, hyy⟩ : ∃ y, y = x[j]'hjl := ⟨_, rfl⟩
                  rw [← hyy] at HJ
                  have hg : (bs x)[j]'hjs = y := by rw [bs_get]; exact hyy.symm
                  have hRj := sumP_bd (x.take j) 0 (by omega) (by simp; omega)
                  have hstep := chk_step (sumT (LF.take q)) (sumP 0 (x.take j)) y.toNat j ⟨HTk.out.1, by have := HTk.out.2; omega⟩ ⟨hRj.1, by have := hRj.2; simp at this; omega⟩ (u8_bd y) (by omega)
                  have HW := Lib.hid (hstep.trans (show _ = sumT (LF.take q) + sumP 0 (x.take (j + 1)) by rw [← HJ.out, sumP_snoc]; simp [Nat.min_eq_left (Nat.le_of_lt hjl)]))
                  have hstep2 := chk_step2 (sumT (LF.take q)) (sumP 0 (x.take j)) y.toNat j ⟨HTk.out.1, by have := HTk.out.2; omega⟩ ⟨hRj.1, by have := hRj.2; simp at this; omega⟩ (u8_bd y) (by omega)
                  have HW2 := Lib.hid (hstep2.trans (show _ = sumT (LF.take q) + sumP 0 (x.take (j + 1)) by rw [← HJ.out, sumP_snoc]; simp [Nat.min_eq_left (Nat.le_of_lt hjl)]))
                  clear hRj hstep hstep2 hyy
                  go_wp2
                  go_round
                  case rel => exact ⟨j + 1, by omega, by go_num, by first | rw [HW.out] | rw [HW2.out]⟩
                  case measure => simp [intOf]; omega
                · have hje : j = m := by omega
                  subst hje
                  have HE := Lib.hid (show x.take j = x from List.take_of_length_le (by rw [← HM.out]; exact Nat.le_refl _))
                  rw [HE.out, ← HTs.out]
                  have hfl := HFk.out
                  have hlt : (LF.take q).length ≤ 2001 := by simp; omega
                  have hfl2 : (fedL (LF.take q)).length ≤ 700000 := by
                    have := Nat.mul_le_mul hlt (Nat.le_refl 301)
                    omega
                  obtain ⟨F, hF⟩ : ∃ F, F = fedL (LF.take q) := ⟨_, rfl⟩
                  rw [← hF] at hfl2 HTf
                  rw [← hF]
                  obtain ⟨G, hG⟩ : ∃ G, G = F ++ x := ⟨_, rfl⟩
                  have k1 : bs F ++ bs x = bs G := by rw [hG]; exact bs_app _ _
                  have k2 : bs G ++ (⟨#[10]⟩ : ByteArray) = bs (fedL (LF.take (q + 1))) := by rw [HTf.out, ← hG]; exact bs_app _ [10]
                  have s1 : (bs F).size ≤ 700000 := by rw [bs_size]; exact hfl2
                  have s2 : (bs G).size ≤ 701000 := by have := HXL.out; rw [bs_size, hG]; simp; omega
                  have s3 : (bs x).size ≤ 300 := by rw [bs_size]; exact HXL.out
                  have s4 : ¬ 9223372036854775807 < (bs F).size + (bs x).size := by omega
                  have s5 : ¬ 9223372036854775807 < (bs G).size + 1 := by omega
                  clear hF hG hfl hfl2 hlt
                  go_wp2
                  go_round
                  case rel => exact ⟨q + 1, by omega, by go_num, rfl, by first | rfl | rw [k2] | rw [k1, k2]⟩
                  case measure => simp [intOf]; omega
            · have hqe : q = n := by omega
              subst hqe
              rw [List.take_of_length_le (by rw [← HNn.out]; exact Nat.le_refl _)]
              have hT := sumT_bd (ls := LF) (fun l hl => by have := HR.out l hl; omega) (by rw [← HNn.out]; omega)
              have hfl := fedL_len LF 300 HR.out
              have hfl2 : (fedL LF).length ≤ 700000 := by
                have := Nat.mul_le_mul (show LF.length ≤ 2001 by rw [← HNn.out]; exact hn2) (Nat.le_refl 301)
                omega
              clear hfl
              generalize sumT LF = T at *
              generalize fedL LF = F at *
              have hm : T.tmod 113 = T % 113 := Int.tmod_eq_emod_of_nonneg hT.1
              obtain ⟨r, hr⟩ : ∃ r : Nat, T % 113 = (r : Int) := ⟨(T % 113).toNat, by omega⟩
              have hr113 : r < 113 := by omega
              rw [hr] at hm HTF
              have b1 : r / 100 ≤ 1000000 := by omega
              have b2 : r / 10 % 10 ≤ 1000000 := by omega
              have b3 : r % 10 ≤ 1000000 := by omega
              have z1 := itoa7 (n := ((r / 100 : Nat) : Int)) (by omega)
              have z2 := itoa7 (n := ((r / 10 % 10 : Nat) : Int)) (by omega)
              have z3 := itoa7 (n := ((r % 10 : Nat) : Int)) (by omega)
              have HE := Lib.hid (show textF ps ls = F ++ (wEnd ++ [32] ++ Lib.itoa ((r / 100 : Nat) : Int) ++ Lib.itoa ((r / 10 % 10 : Nat) : Int) ++ Lib.itoa ((r % 10 : Nat) : Int)) ++ [10] by
                rw [HTF.out]
                have a1 : (r : Int) / 100 = ((r / 100 : Nat) : Int) := by omega
                have a2 : (r : Int) / 10 % 10 = ((r / 10 % 10 : Nat) : Int) := by omega
                have a3 : (r : Int) % 10 = ((r % 10 : Nat) : Int) := by omega
                rw [a1, a2, a3])
              obtain ⟨w0, d1, d2, d3, d4, w1', w2', w3', w4'⟩ := digs r hr113
              clear HTF hr hT
              generalize r / 100 = q1 at *
              generalize r / 10 % 10 = q2 at *
              generalize r % 10 = q3 at *
              generalize r / 10 = q0 at *
              obtain ⟨t1, ht1⟩ : ∃ t, t = F ++ [101, 110, 100, 32] := ⟨_, rfl⟩
              obtain ⟨t2, ht2⟩ : ∃ t, t = t1 ++ Lib.itoa (q1 : Int) := ⟨_, rfl⟩
              obtain ⟨t3, ht3⟩ : ∃ t, t = t2 ++ Lib.itoa (q2 : Int) := ⟨_, rfl⟩
              obtain ⟨t4, ht4⟩ : ∃ t, t = t3 ++ Lib.itoa (q3 : Int) := ⟨_, rfl⟩
              have k1 : bs F ++ (⟨#[101, 110, 100, 32]⟩ : ByteArray) = bs t1 := by rw [ht1]; exact bs_app _ [101, 110, 100, 32]
              have k2 : bs t1 ++ bs (Lib.itoa (q1 : Int)) = bs t2 := by rw [ht2]; exact bs_app _ _
              have k3 : bs t2 ++ bs (Lib.itoa (q2 : Int)) = bs t3 := by rw [ht3]; exact bs_app _ _
              have k4 : bs t3 ++ bs (Lib.itoa (q3 : Int)) = bs t4 := by rw [ht4]; exact bs_app _ _
              have k5 : bs t4 ++ (⟨#[10]⟩ : ByteArray) = bs (textF ps ls) := by
                rw [HE.out, ht4, ht3, ht2, ht1, show (⟨#[10]⟩ : ByteArray) = bs [10] from rfl, bs_app]
                congr 1
                simp [wEnd]
              have s1 : (bs F).size ≤ 700000 := by rw [bs_size]; exact hfl2
              have s2 : (bs t1).size ≤ 700004 := by rw [bs_size, ht1]; simp; omega
              have s3 : (bs t2).size ≤ 700011 := by have := s2; rw [bs_size] at this ⊢; rw [ht2]; simp; omega
              have s4 : (bs t3).size ≤ 700018 := by have := s3; rw [bs_size] at this ⊢; rw [ht3]; simp; omega
              have s5 : (bs t4).size ≤ 700025 := by have := s4; rw [bs_size] at this ⊢; rw [ht4]; simp; omega
              have y1 : (bs (Lib.itoa (q1 : Int))).size ≤ 7 := by rw [bs_size]; exact z1
              have y2 : (bs (Lib.itoa (q2 : Int))).size ≤ 7 := by rw [bs_size]; exact z2
              have y3 : (bs (Lib.itoa (q3 : Int))).size ≤ 7 := by rw [bs_size]; exact z3
              have n1 : ¬ 9223372036854775807 < (bs F).size + 4 := by omega
              have n2 : ¬ 9223372036854775807 < (bs t1).size + (bs (Lib.itoa (q1 : Int))).size := by omega
              have n3 : ¬ 9223372036854775807 < (bs t2).size + (bs (Lib.itoa (q2 : Int))).size := by omega
              have n4 : ¬ 9223372036854775807 < (bs t3).size + (bs (Lib.itoa (q3 : Int))).size := by omega
              have n5 : ¬ 9223372036854775807 < (bs t4).size + 1 := by omega
              clear ht1 ht2 ht3 ht4 HE z1 z2 z3
              go_wp2_with (go_at_call 121; refine (decimal_c _ (by first | exact b1 | exact b2 | exact b3) _).mono ?_; rintro e w5 ⟨rfl, hb⟩; replace BW := Lib.hid (nextB BW.out hb); clear hb)
              exact bodyPost_ret (results_tmp rfl _ _ _) rfl ⟨rfl, BW.out⟩
end Go.Proofs
