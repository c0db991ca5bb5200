/-
  Contracts of Easter and Next hold at every season of moderate size.
-/
import Derived.Test.YtplhaohcmhepbaaGreatDoorP2
import Derived.Shelf.Abstract
namespace Go.Proofs
open Go.RowKit
attribute [local go_sem ↓] Go.wp_at_zero Go.wp_at_succ

/-- A number for each person, 0 for the house. -/
def coinsB (n : Nat) (xs : List Int) : Bool := decide (xs.length = n) && xs.getD 0 0 == 0 && xs.all fun x => inB x 0 100000
def levL (caps : List Int) (lv : Int) : List Int := caps.map fun c => min c lv
def spread : List Int → Int → Int → List Int
  | [], _, _ => []
  | c :: r, h, l => if 0 < l ∧ min c h < c then (min c h + 1) :: spread r h (l - 1) else min c h :: spread r h l
def lft : List Int → Int → Int → Int
  | [], _, l => l
  | c :: r, h, l => if 0 < l ∧ min c h < c then lft r h (l - 1) else lft r h l
def fairL (caps : List Int) (budget h : Int) : List Int := spread caps h (budget - sumI (levL caps h))
theorem spread_snoc : ∀ (xs : List Int) (c h l : Int), spread (xs ++ [c]) h l = spread xs h l ++ [if 0 < lft xs h l ∧ min c h < c then min c h + 1 else min c h]
  | [], c, h, l => by by_cases hh : 0 < l ∧ min c h < c <;> simp [spread, lft, hh]
  | x :: r, c, h, l => by
    have i1 := spread_snoc r c h (l - 1)
    have i2 := spread_snoc r c h l
    simp only [List.cons_append, spread, lft]
    split
    · rw [i1]; rfl
    · rw [i2]; rfl
theorem lft_snoc : ∀ (xs : List Int) (c h l : Int), lft (xs ++ [c]) h l = if 0 < lft xs h l ∧ min c h < c then lft xs h l - 1 else lft xs h l
  | [], c, h, l => by simp only [List.nil_append, lft]; rfl
  | x :: r, c, h, l => by
    have i1 := lft_snoc r c h (l - 1)
    have i2 := lft_snoc r c h l
    simp only [List.cons_append, lft]
    split
    · rw [i1]
    · rw [i2]
theorem spread_len : ∀ (xs : List Int) (h l : Int), (spread xs h l).length = xs.length
  | [], _, _ => rfl
  | x :: r, h, l => by simp only [spread]; split <;> simp [spread_len r]
theorem lft_bd : ∀ (xs : List Int) (h l : Int), min l 0 ≤ lft xs h l ∧ lft xs h l ≤ max l 0
  | [], _, l => by simp only [lft]; omega
  | x :: r, h, l => by
    have i1 := lft_bd r h (l - 1)
    have i2 := lft_bd r h l
    simp only [lft]
    split <;> omega

set_option maxHeartbeats 1000000 in
theorem areCoins_c (s : Sv) (h2 : 2 ≤ s.pn) (hp : s.pn ≤ 1000) (A : Option Addr) (n c : Nat) (xs : List Int) (hn : n ≤ 1000000) (w : World) (hA : SlOf inC 1 w A n xs) :
    Calls Tryz.prog 101 #[s.val, .slice A n c] w fun e w' => e = .returned (.bool (coinsB s.pn xs)) ∧ Below w.heap.size w w' := by
  obtain ⟨pA, lA, pn, pc, ln, lc, ps, ls⟩ := s
  simp only [Sv.val] at *
  have HA := Lib.hid hA; have HN := Lib.hid hA.1
  have B0 := Lib.hid (newB (Below.refl w.heap.size w) (.cells #[.slice pA pn pc, .slice lA ln lc] 25))
  by_cases hnp : n = pn
  · subst hnp
    have hl0 : 0 < xs.length := by rw [hA.1]; omega
    obtain ⟨b, o, rfl⟩ := hA.addr (by omega)
    have hx := List.getElem?_eq_getElem hl0
    have hg : xs.getD 0 0 = xs[0] := by simp [List.getD_eq_getElem?_getD, hx]
    obtain ⟨x, hxx⟩ : ∃ x, x = xs[0] := ⟨_, rfl⟩
    rw [← hxx] at hx hg
    have hc0 : w.cell? ⟨b, o, none⟩ = some (.int .i64 x) := by have := hA.range inC_len hx 0 _ rfl; simpa using this
    have HE := Lib.hid (show coinsB n xs = (x == 0 && xs.all fun x => inB x 0 100000) by simp only [coinsB, hA.1, hg]; simp)
    have hbl := hA.lt inC_len (by omega) (by omega)
    clear hA hx hxx hg
    by_cases hx0 : x = 0
    · subst hx0
      have HE2 := Lib.hid (show coinsB n xs = xs.all fun x => inB x 0 100000 by rw [HE.out]; rfl)
      go_enter Tryz.func101, Tryz.ntmps101
      go_wp2
      go_loopw [21] (fun v wr => ∃ k : Nat, k ≤ n ∧ v = .int .i64 k ∧ Below w.heap.size w wr ∧ ∀ (j : Nat) x, j < k → xs[j]? = some x → inB x 0 100000 = true) (fun v _ => n - (intOf v).toNat)
      case atStart => exact ⟨0, by omega, rfl, B0.out, fun j x hj => absurd hj (by omega)⟩
      case round =>
        obtain ⟨k, hk, rfl, hB, hAl⟩ := hrel
        have HB := Lib.hid hB; have HAl := Lib.hid hAl
        clear hB hAl hc0
        by_cases hkn : k < n
        · have hkl : k < xs.length := by rw [HN.out]; exact hkn
          have hx := List.getElem?_eq_getElem hkl
          obtain ⟨x, hxx⟩ : ∃ x, x = xs[k] := ⟨_, rfl⟩
          rw [← hxx] at hx
          have HX := Lib.hid hx
          have hc : wr.cell? ⟨b, o + k, none⟩ = some (.int .i64 x) := by have := (HA.out.keep HB.out).range inC_len hx 0 _ rfl; simpa using this
          clear hx hxx
          cases ht : inB x 0 100000
          · have T := Lib.hid ht
            clear ht
            go_wp2_with (go_at_call 102; refine (within_c _ _ _ _).mono ?_; rintro e w1 ⟨rfl, rfl⟩; rw [T.out])
            exact bodyPost_ret (results_tmp rfl _ _ _) rfl ⟨by rw [HE2.out, all_not HX.out T.out]; rfl, HB.out⟩
          · have T := Lib.hid ht
            clear ht
            go_wp2_with (go_at_call 102; refine (within_c _ _ _ _).mono ?_; rintro e w1 ⟨rfl, rfl⟩; rw [T.out])
            go_roundw
            case rel => exact ⟨k + 1, by omega, by go_num, HB.out, all_next HAl.out HX.out T.out⟩
            case measure => simp [intOf]; omega
        · have hall := Lib.hid (all_take HN.out HAl.out (by omega))
          go_wp2
          exact bodyPost_ret (results_tmp rfl _ _ _) rfl ⟨by rw [HE2.out, hall.out]; rfl, HB.out⟩
    · have hx1 : (x != 0) = true := by simpa using hx0
      have HE2 := Lib.hid (show coinsB n xs = false by rw [HE.out]; simp [hx0])
      go_enter Tryz.func101, Tryz.ntmps101
      go_wp2
      exact bodyPost_ret (results_tmp rfl _ _ _) rfl ⟨by rw [HE2.out]; rfl, B0.out⟩
  · have h1 : ((n : Int) != (pn : Int)) = true := by simp; omega
    have HE2 := Lib.hid (show coinsB pn xs = false by simp [coinsB, hA.1, hnp])
    clear hA
    go_enter Tryz.func101, Tryz.ntmps101
    go_wp2
    exact bodyPost_ret (results_tmp rfl _ _ _) rfl ⟨by rw [HE2.out]; rfl, B0.out⟩

theorem map_flat {cur : Array Value} {n : Nat} {xs : List Int} (hs : cur.size = n) (hn : xs.length = n) (h : ∀ (j : Nat) x, j < n → xs[j]? = some x → cur[j]? = some (.int .i64 x)) : cur.toList = flat inC xs := by
  rw [flat_inC]
  apply List.ext_getElem?
  intro j
  by_cases hj : j < n
  · have hx := List.getElem?_eq_getElem (show j < xs.length by omega)
    rw [Array.getElem?_toList, h j _ hj hx]
    simp [hx]
  · rw [List.getElem?_eq_none (by simp; omega), List.getElem?_eq_none (by simp; omega)]

set_option maxHeartbeats 1000000 in
theorem levelled_c (A : Option Addr) (n c : Nat) (xs : List Int) (lv : Int) (hn : n ≤ 1000) (w : World) (hA : SlOf inC 1 w A n xs) :
    Calls Tryz.prog 151 #[.slice A n c, .int .i64 lv] w (Gives eI w (levL xs lv)) := by
  have HA := Lib.hid hA; have HN := Lib.hid hA.1
  clear hA
  have hmk := makeI n (by omega)
  have Z := Lib.hid (Has.new w 3 (madeCells #[.int .i64 0] n))
  have B := Lib.hid (newB (Below.refl w.heap.size w) (.cells (madeCells #[.int .i64 0] n) 3))
  go_enter Tryz.func151, Tryz.ntmps151
  go_wp2
  generalize w.alloc (.cells (madeCells #[.int .i64 0] n) 3) = W0 at *
  have HSZ := Lib.hid (size_madeCells #[.int .i64 0] n)
  generalize madeCells #[.int .i64 0] n = mc at *
  clear hmk
  go_loopw [13] (fun v wr => ∃ (j : Nat) (cur : Array Value), j ≤ n ∧ v = .int .i64 j ∧ Below w.heap.size w wr ∧ Has wr w.heap.size 3 cur ∧ cur.size = n
    ∧ ∀ i, i < j → cur[i]? = some (.int .i64 (min (xs.getD i 0) lv))) (fun v _ => n - (intOf v).toNat)
  case atStart => exact ⟨0, mc, by omega, rfl, B.out, Z.out, HSZ.out, fun j hj => by omega⟩
  case round =>
    obtain ⟨j, cur, hj, rfl, hB, hZ, hS, hC⟩ := hrel
    have HB := Lib.hid hB; have HZ := Lib.hid hZ; have HS := Lib.hid hS; have HC := Lib.hid hC
    have hz := hZ.lt
    have qz := hZ.cell
    have qq := hZ.frozen
    clear hB hZ hS hC
    by_cases hjn : j < n
    · have hkl : j < xs.length := by rw [HN.out]; exact hjn
      obtain ⟨b, o, he⟩ := HA.out.addr (by omega)
      have hx := List.getElem?_eq_getElem hkl
      obtain ⟨x, hxx⟩ : ∃ x, x = xs[j] := ⟨_, rfl⟩
      rw [← hxx] at hx
      have HG := Lib.hid (show xs.getD j 0 = x by simp [List.getD_eq_getElem?_getD, hx])
      subst he
      have hc : wr.cell? ⟨b, o + j, none⟩ = some (.int .i64 x) := by have := (HA.out.keep HB.out).range inC_len hx 0 _ rfl; simpa using this
      have HNx := Lib.hid (cur_next (F := fun i => min (xs.getD i 0) lv) HS.out hjn HC.out)
      have hcj : cur[j]? = some (cur[j]'(by rw [HS.out]; exact hjn)) := Array.getElem?_eq_getElem _
      clear hx hxx
      by_cases hm : lv < x
      · have HM := Lib.hid (show min (xs.getD j 0) lv = lv by rw [HG.out]; omega)
        go_wp2
        go_roundw
        case rel => exact ⟨j + 1, cur.setIfInBounds j (.int .i64 (min (xs.getD j 0) lv)), by omega, by go_num, setB HB.out (by simp) _, by rw [HM.out]; simpa using HZ.out.set j _, by simp [HS.out], HNx.out⟩
        case measure => simp [intOf]; omega
      · have HM := Lib.hid (show min (xs.getD j 0) lv = x by rw [HG.out]; omega)
        go_wp2
        go_roundw
        case rel => exact ⟨j + 1, cur.setIfInBounds j (.int .i64 (min (xs.getD j 0) lv)), by omega, by go_num, setB HB.out (by simp) _, by rw [HM.out]; simpa using HZ.out.set j _, by simp [HS.out], HNx.out⟩
        case measure => simp [intOf]; omega
    · have hjn' : j = n := by omega
      subst hjn'
      have HFl := Lib.hid (show cur.toList = flat inC (levL xs lv) from map_flat HS.out (by simp [levL, HN.out]) (fun i x hi hx => by
        have hil : i < xs.length := by rw [HN.out]; exact hi
        have hg : xs.getD i 0 = xs[i] := by simp [List.getD_eq_getElem?_getD, List.getElem?_eq_getElem hil]
        rw [HC.out i hi, hg]
        simp [levL, List.getElem?_eq_getElem hil] at hx
        rw [hx]))
      go_wp2
      exact bodyPost_ret (results_tmp rfl _ _ _) rfl ⟨_, rfl, Own.of_has (n := j) eI_ok HZ.out (by omega) (by simp [levL, HN.out]) (by rw [HS.out]; exact (Nat.mul_one j).symm) HFl.out (by unfold maxLen; omega), HB.out⟩
end Go.Proofs
namespace Go.Proofs
open Go.RowKit
attribute [local go_sem ↓] Go.wp_at_zero Go.wp_at_succ

/-- The first number from 0 on, up to n, of which something is so. -/
structure IsFirst (q : Nat → Bool) (n h : Nat) : Prop where
  le : h ≤ n
  no : ∀ i, i < h → q i = false
  yes : h < n → q h = true
set_option maxHeartbeats 1000000 in
theorem search_c (gc : FuncId) (cap : Array Value) (eg : ∀ args w, (callFunc gc args).run Tryz.prog w = .ok (.enter gc args) w) (n : Nat) (hn : n ≤ 1000000) (q : Nat → Bool) (hq : ∀ i j, i ≤ j → q i = true → q j = true) (w : World)
    (hf : ∀ (d : Nat), d < n → ∀ w', Below w.heap.size w w' → Calls Tryz.prog gc (#[.int .i64 d] ++ cap) w' fun e w'' => e = .returned (.bool (q d)) ∧ Below w'.heap.size w' w'') :
    Calls Tryz.prog 149 #[.int .i64 n, .func (.func gc) #[] cap] w fun e w' => ∃ h : Nat, e = .returned (.int .i64 h) ∧ IsFirst q n h ∧ Below w.heap.size w w' := by
  have HF := Lib.hid hf; have HQ := Lib.hid hq
  clear hf hq
  go_enter Tryz.func149, Tryz.ntmps149
  go_wp2
  go_loopw [5, 6] (fun u v wr => ∃ i j : Nat, u = .int .i64 i ∧ v = .int .i64 j ∧ i ≤ j ∧ j ≤ n ∧ (∀ x, x < i → q x = false) ∧ (∀ x, j ≤ x → x < n → q x = true) ∧ Below w.heap.size w wr) (fun u v _ => (intOf v).toNat - (intOf u).toNat)
  case atStart => exact ⟨0, n, rfl, rfl, by omega, by omega, fun x hx => absurd hx (by omega), fun x h1 h2 => absurd h1 (by omega), Below.refl _ _⟩
  case round =>
    obtain ⟨i, j, rfl, rfl, hij, hjn, h1, h2, hB⟩ := hrel
    have H1 := Lib.hid h1; have H2 := Lib.hid h2; have HB := Lib.hid hB
    clear h1 h2 hB
    by_cases hlt : i < j
    · obtain ⟨m, hm⟩ : ∃ m : Nat, m = (i + j) / 2 := ⟨_, rfl⟩
      have hmi : i ≤ m := by omega
      have hmj : m < j := by omega
      have HC := Lib.hid (HF.out m (by omega) wr HB.out)
      have e1 : IntKind.u64.wrap ((i : Int) + (j : Int)) = (i : Int) + j := by rw [IntKind.wrap_u64]; omega
      have e2 : ((i : Int) + (j : Int)) / 2 = (m : Int) := by omega
      have HM := Lib.hid hm
      clear hm
      cases hp : q m
      · have HP := Lib.hid hp
        rw [hp] at HC
        clear hp
        go_wp2_with (refine HC.out.mono ?_; rintro e w1 ⟨rfl, hb1⟩; have HB1 := Lib.hid hb1; clear hb1)
        go_roundw
        case rel =>
          refine ⟨m + 1, j, by go_num, rfl, by omega, hjn, ?_, H2.out, nextB HB.out HB1.out⟩
          intro x hx
          rcases Bool.eq_false_or_eq_true (q x) with hqx | hqx
          · have := HQ.out x m (by omega) hqx
            rw [HP.out] at this; cases this
          · exact hqx
        case measure => simp [intOf]; omega
      · have HP := Lib.hid hp
        rw [hp] at HC
        clear hp
        go_wp2_with (refine HC.out.mono ?_; rintro e w1 ⟨rfl, hb1⟩; have HB1 := Lib.hid hb1; clear hb1)
        go_roundw
        case rel => exact ⟨i, m, rfl, rfl, hmi, by omega, H1.out, fun x hx hxn => HQ.out m x hx HP.out, nextB HB.out HB1.out⟩
        case measure => simp [intOf]; omega
    · have hij' : i = j := by omega
      subst hij'
      go_wp2
      exact bodyPost_ret (results_tmp rfl _ _ _) rfl ⟨i, rfl, ⟨hjn, H1.out, fun hlt => H2.out i (by omega) hlt⟩, HB.out⟩

theorem levL_sum_bd (caps : List Int) (lv : Int) (h0 : 0 ≤ lv) (hc : ∀ c ∈ caps, 0 ≤ c ∧ c ≤ 100000) (hl : caps.length ≤ 20) (j : Nat) : 0 ≤ sumI ((levL caps lv).take j) ∧ sumI ((levL caps lv).take j) ≤ 2000000 := by
  have hb : ∀ x ∈ (levL caps lv).take j, 0 ≤ x ∧ x ≤ 100000 := fun x hx => by
    obtain ⟨c, hcm, rfl⟩ := List.mem_map.1 (List.mem_of_mem_take hx)
    have := hc c hcm; omega
  have := sumI_bd ((levL caps lv).take j) 100000 (fun x hx => by have := hb x hx; omega)
  have hl : ((levL caps lv).take j).length ≤ 20 := by simp [levL]; omega
  exact ⟨sumI_nonneg _ (fun x hx => (hb x hx).1), by omega⟩
theorem levL_sum_mono : ∀ (caps : List Int) (a b : Int), a ≤ b → sumI (levL caps a) ≤ sumI (levL caps b)
  | [], _, _, _ => by simp [levL, sumI]
  | c :: r, a, b, h => by
    have := levL_sum_mono r a b h
    simp only [levL, List.map_cons, sumI] at *
    omega

set_option maxHeartbeats 1000000 in
set_option maxRecDepth 20000 in
theorem fair1_c (b1 b2 : Nat) (A : Option Addr) (n c : Nat) (caps : List Int) (bud : Int) (lv : Nat) (hlv : lv ≤ 100000) (hn : n ≤ 20) (hc : ∀ c ∈ caps, 0 ≤ c ∧ c ≤ 100000) (w : World) (hA : SlOf inC 1 w A n caps) (h1 : Has w b1 30 #[.slice A n c]) (h2 : Has w b2 3 #[.int .i64 bud]) :
    Calls Tryz.prog 150 #[.int .i64 lv, .pointer (some ⟨b1, 0, none⟩), .pointer (some ⟨b2, 0, none⟩)] w fun e w' => e = .returned (.bool (decide (bud < sumI (levL caps ((lv : Int) + 1))))) ∧ Below w.heap.size w w' := by
  have HL := Lib.hid fun (w' : World) (hb : Below w.heap.size w w') => levelled_c A n c caps ((lv : Int) + 1) (by omega) w' (hA.keep hb)
  have HLn := Lib.hid (show (levL caps ((lv : Int) + 1)).length = n by simp [levL, hA.1])
  have HSb := Lib.hid fun j => levL_sum_bd caps ((lv : Int) + 1) (by omega) hc (by rw [hA.1]; exact hn) j
  have H1 := Lib.hid h1; have H2 := Lib.hid h2
  clear h1 h2 hA hc
  go_enter Tryz.func150, Tryz.ntmps150
  go_wp2
  apply wp_loose 8 [.v _, .v _, .v _, .r (fun v w' => Own eI w.heap.size v (levL caps ((lv : Int) + 1)) w'), .v _, .v _, .v _, .v _] (by kernel_rfl) (by kernel_rfl) (by kernel_rfl) (by decide) rfl
  intro K hK
  apply OblS.val rfl
  · intro w' hb _; have := (H1.out.after hb).cell; go_simp; rfl
  apply OblS.val rfl
  · intro w' hb _; go_simp; rfl
  apply OblS.val (v := .int .i64 ((lv : Int) + 1)) rfl
  · intro w' hb _; go_simp; rw [IntKind.wrap_i64]; omega
  apply OblS.callR 151
  · intro v w1 w2 h hb; exact h.keep hb
  · rfl
  · intro w' hb _
    apply Exists.intro; apply And.intro; (go_simp; rfl); refine (HL.out w' hb).mono ?_
    rintro e w2 ⟨v, rfl, ho, hb2⟩
    exact ⟨v, rfl, ho.lower hb.size, hb2⟩
  intro v3
  apply OblS.call (v := .int .i64 (sumI (levL caps ((lv : Int) + 1)))) 109 rfl
  · intro w' hb hH
    have ho := hH _ (List.mem_cons_self ..) (by kernel_rfl)
    obtain ⟨A2, c2, rfl, hsl, _⟩ := Own.sl ho
    apply Exists.intro; apply And.intro; (go_simp; rfl); exact sum_c A2 _ c2 (levL caps ((lv : Int) + 1)) (by have := HLn.out; omega) (fun j _ => by have := HSb.out j; omega) w' hsl
  apply OblS.val rfl
  · intro w' hb _; have := (H2.out.after hb).cell; go_simp; rfl
  apply OblS.val rfl
  · intro w' hb _; go_simp; rfl
  apply OblS.val rfl
  · intro w' hb _; go_simp; rfl
  apply OblS.nil
  apply hK
  intro w2 hb hH
  clear hH hK K
  simp only [Act.put, List.setIfInBounds_toArray, List.set_cons_zero, List.set_cons_succ, List.drop_succ_cons, List.drop_zero]
  have HB2 := Lib.hid hb
  clear hb
  go_wp2
  exact bodyPost_ret (results_tmp rfl _ _ _) rfl ⟨rfl, HB2.out⟩
end Go.Proofs
namespace Go.Proofs
open Go.RowKit Go.Shelf
attribute [local go_sem ↓] Go.wp_at_zero Go.wp_at_succ

/-- The first cells of a row are these numbers. -/
def Cur (cur : Array Value) (L : List Int) : Prop := ∀ (i : Nat) (x : Int), L[i]? = some x → cur[i]? = some (Value.int .i64 x)
theorem Cur.set {cur : Array Value} {L : List Int} (h : Cur cur L) {k : Nat} (hk : k < L.length) (y : Int) : Cur (cur.setIfInBounds k (.int .i64 y)) (L.set k y) := by
  intro i x hx
  rw [List.getElem?_set] at hx
  rw [Array.getElem?_setIfInBounds]
  have hs : k < cur.size := by
    have := h k _ (List.getElem?_eq_getElem hk)
    exact (Array.getElem?_eq_some_iff.1 this).1
  split at hx
  · rename_i e; subst e
    first | (rw [if_pos hk] at hx; cases hx) | cases hx
    rw [if_pos rfl, if_pos hs]
  · rename_i e
    rw [if_neg e]
    exact h i x hx
theorem Own.openI {base : Nat} {v : Value} {xs : List Int} {w : World} (h : Own eI base v xs w) (hn : 0 < xs.length) : ∃ g cap cur, v = .slice (some ⟨g, 0, none⟩) xs.length cap ∧ base ≤ g ∧ Has w g 3 cur ∧ cur.size = cap ∧ xs.length ≤ cap ∧ cap ≤ maxLen ∧ Cur cur xs := by
  rcases h.2 with ⟨_, h1⟩ | ⟨g, cap, cur, e1, e2, e3, e4, e5, e6, e7⟩
  · omega
  · refine ⟨g, cap, cur, e1, e2, e3, by rw [e6]; exact Nat.mul_one _, e4, e5, fun i x hx => ?_⟩
    have hl := (List.getElem?_eq_some_iff.1 hx).1
    have : (flat inC xs)[i]? = some (.int .i64 x) := by rw [flat_inC]; simp [hx]
    rw [← show cur.toList.take (flat inC xs).length = flat inC xs by rw [flat_len inC_len]; exact e7, List.getElem?_take] at this
    split at this
    · simpa using this
    · cases this
theorem Own.shutI {base g cap n : Nat} {cur : Array Value} {xs : List Int} {w : World} (hb : base ≤ g) (hg : Has w g 3 cur) (hs : cur.size = cap) (hl : xs.length = n) (hc : n ≤ cap) (hm : cap ≤ maxLen) (h : Cur cur xs) : Own eI base (.slice (some ⟨g, 0, none⟩) n cap) xs w := by
  refine ⟨by rw [flat_len eI_ok.len], .inr ⟨g, cap, cur, by rw [hl], hb, hg, by omega, hm, by rw [hs]; exact (Nat.mul_one _).symm, ?_⟩⟩
  rw [show xs.length * eI.sz = (flat eI.f xs).length from (flat_len eI_ok.len xs).symm]
  show cur.toList.take (flat inC xs).length = flat inC xs
  apply List.ext_getElem?
  intro i
  rw [List.getElem?_take]
  split
  · rename_i hi
    rw [flat_inC] at hi ⊢
    have hi' : i < xs.length := by simpa using hi
    have := h i _ (List.getElem?_eq_getElem hi')
    rw [Array.getElem?_toList, this]
    simp [List.getElem?_eq_getElem hi']
  · rename_i hi
    rw [List.getElem?_eq_none (by omega)]

def advL (caps : List Int) (h l : Int) (k : Nat) : List Int := spread (caps.take k) h l ++ levL (caps.drop k) h
theorem advL_len (caps : List Int) (h l : Int) (k : Nat) : (advL caps h l k).length = caps.length := by
  simp only [advL, levL, List.length_append, spread_len, List.length_map, List.length_take, List.length_drop]; omega
theorem advL_get {caps : List Int} {h l : Int} {k : Nat} (hk : k < caps.length) : (advL caps h l k)[k]? = some (min caps[k] h) := by
  unfold advL
  have hl : (spread (caps.take k) h l).length = k := by rw [spread_len]; simp; omega
  rw [List.getElem?_append_right (by omega), hl, List.drop_eq_getElem_cons hk]
  simp only [levL, List.map_cons, Nat.sub_self, List.getElem?_cons_zero]
theorem advL_more {caps : List Int} {h l : Int} {k : Nat} (hk : k < caps.length) (hc : 0 < lft (caps.take k) h l ∧ min caps[k] h < caps[k]) : advL caps h l (k + 1) = (advL caps h l k).set k (min caps[k] h + 1) := by
  have hl : (spread (caps.take k) h l).length = k := by rw [spread_len]; simp; omega
  unfold advL
  rw [← List.take_append_getElem hk, spread_snoc, if_pos hc, List.drop_eq_getElem_cons hk]
  simp only [levL, List.map_cons]
  rw [List.set_append_right _ _ (by omega), hl]
  simp
theorem advL_same {caps : List Int} {h l : Int} {k : Nat} (hk : k < caps.length) (hc : ¬ (0 < lft (caps.take k) h l ∧ min caps[k] h < caps[k])) : advL caps h l (k + 1) = advL caps h l k := by
  unfold advL
  rw [← List.take_append_getElem hk, spread_snoc, if_neg hc, List.drop_eq_getElem_cons hk]
  simp only [levL, List.map_cons, List.append_assoc, List.singleton_append]
theorem lft_next {caps : List Int} {h l : Int} {k : Nat} (hk : k < caps.length) : lft (caps.take (k + 1)) h l = if 0 < lft (caps.take k) h l ∧ min caps[k] h < caps[k] then lft (caps.take k) h l - 1 else lft (caps.take k) h l := by
  rw [← List.take_append_getElem hk, lft_snoc]

def levQ (caps : List Int) (bud : Int) (d : Nat) : Bool := decide (bud < sumI (levL caps ((d : Int) + 1)))
/-- A best Easter, by its level. -/
def IsFair (caps : List Int) (bud : Int) (xs : List Int) : Prop := ∃ h : Nat, IsFirst (levQ caps bud) 100000 h ∧ xs = fairL caps bud h

set_option maxHeartbeats 4000000 in
set_option maxRecDepth 20000 in
theorem fairest_c (A : Option Addr) (n c : Nat) (caps : List Int) (bud : Int) (hb0 : 0 ≤ bud ∧ bud ≤ 1000000000) (h0 : 0 < n) (hn : n ≤ 20) (hc : ∀ c ∈ caps, 0 ≤ c ∧ c ≤ 100000) (w : World) (hA : SlOf inC 1 w A n caps) :
    Calls Tryz.prog 103 #[.slice A n c, .int .i64 bud] w fun e w' => ∃ xs, IsFair caps bud xs ∧ Gives eI w xs e w' := by
  have HN := Lib.hid hA.1
  have X2 := Lib.hid ((Has.new w 30 #[.slice A n c]).alloc (.cells #[.int .i64 bud] 3))
  have X3 := Lib.hid (Has.new' (w.alloc (.cells #[.slice A n c] 30)) 3 #[.int .i64 bud] (g := w.heap.size + 1) (by simp))
  have B0 := Lib.hid (newB (newB (Below.refl w.heap.size w) (.cells #[.slice A n c] 30)) (.cells #[.int .i64 bud] 3))
  have HA := Lib.hid hA
  have HMo := Lib.hid (show ∀ i j, i ≤ j → levQ caps bud i = true → levQ caps bud j = true from fun i j hij h => by
    simp only [levQ, decide_eq_true_eq] at *
    have := levL_sum_mono caps ((i : Int) + 1) ((j : Int) + 1) (by omega)
    omega)
  have HCp := Lib.hid hc
  have eg := enters_of Tryz.func150 (by kernel_rfl) rfl
  have HSc := Lib.hid (show ∀ w', Below w.heap.size w w' → Has w' w.heap.size 30 #[.slice A n c] → Has w' (w.heap.size + 1) 3 #[.int .i64 bud] → Calls Tryz.prog 149 #[.int .i64 (100000 : Nat), .func (.func 150) #[] #[.pointer (some ⟨w.heap.size, 0, none⟩), .pointer (some ⟨w.heap.size + 1, 0, none⟩)]] w' fun e w'' => ∃ h : Nat, e = .returned (.int .i64 h) ∧ IsFirst (levQ caps bud) 100000 h ∧ Below w'.heap.size w' w'' from
    fun w' hb x2 x3 => search_c 150 _ eg 100000 (by omega) (levQ caps bud) HMo.out w' (fun d hd w2 hb2 => fair1_c w.heap.size (w.heap.size + 1) A n c caps bud d (by omega) hn hc w2 (hA.keep (nextB hb hb2)) (x2.after hb2) (x3.after hb2)))
  clear hA hc
  go_enter Tryz.func103, Tryz.ntmps103
  go_wp2_with (first
    | (go_at_call 149; refine (HSc.out _ B0.out X2.out X3.out).mono ?_; rintro e w1 ⟨h, rfl, hf, hb1⟩; have HF := Lib.hid hf; have hle := hf.le; have HB1 := Lib.hid (nextB B0.out hb1); have X21 := Lib.hid (X2.out.after hb1); have X31 := Lib.hid (X3.out.after hb1); have q2 := (X2.out.after hb1).cell; clear hf hb1)
    | (go_at_call 151; refine (levelled_c A n c caps h (by omega) w1 (HA.out.keep HB1.out)).mono ?_; rintro e w2 ⟨v, rfl, ho, hb2⟩; have HO := Lib.hid ho; have HB2 := Lib.hid (nextB HB1.out hb2); have X22 := Lib.hid (X21.out.after hb2); have X32 := Lib.hid (X31.out.after hb2); clear ho hb2 q2))
  have hlen : (levL caps (h : Int)).length = n := by simp [levL, HN.out]
  obtain ⟨g, cap, cur, rfl, hg0, hg, hgs, hgc, hgm, hgr⟩ := HO.out.openI (by omega)
  rw [hlen] at hgc ⊢
  have hsl := HO.out.sl
  obtain ⟨A2, c2, he2, hsl, _⟩ := hsl
  rw [hlen] at he2 hsl
  cases he2
  have HSl := Lib.hid hsl; have HG := Lib.hid hg; have HGR := Lib.hid hgr
  clear hsl hg hgr
  have HSb := Lib.hid fun j => levL_sum_bd caps (h : Int) (by omega) HCp.out (by have := HN.out; omega) j
  have hs0 := HSb.out n
  rw [List.take_of_length_le (by omega)] at hs0
  obtain ⟨s0, s1⟩ := hs0
  apply wp_loose 5 [.v _, .v _, .v _, .v _, .v _] (by kernel_rfl) (by kernel_rfl) (by kernel_rfl) (by decide) rfl
  intro K hK
  apply OblS.val rfl
  · intro w' hb _; have := (X32.out.after hb).cell; go_simp; rfl
  apply OblS.val rfl
  · intro w' hb _; go_simp; rfl
  apply OblS.call (v := .int .i64 (sumI (levL caps (h : Int)))) 109 rfl
  · intro w' hb _; apply Exists.intro; apply And.intro; (go_simp; rfl); exact sum_c _ n _ (levL caps (h : Int)) (by omega) (fun j _ => by have := HSb.out j; omega) w' (HSl.out.keep hb)
  apply OblS.val (v := .int .i64 (bud - sumI (levL caps (h : Int)))) rfl
  · intro w' hb _; go_simp; rw [IntKind.wrap_i64]; omega
  apply OblS.val rfl
  · intro w' hb _; go_simp; rfl
  apply OblS.nil
  apply hK
  intro w3 hb hH
  clear hH hK K
  simp only [Act.put, List.setIfInBounds_toArray, List.set_cons_zero, List.set_cons_succ, List.drop_succ_cons, List.drop_zero]
  have HB3 := Lib.hid (nextB HB2.out hb); have X23 := Lib.hid (X22.out.after hb); have HG3 := Lib.hid (HG.out.after hb)
  clear hb
  obtain ⟨l0, hl0⟩ : ∃ l0, l0 = bud - sumI (levL caps (h : Int)) := ⟨_, rfl⟩
  rw [← hl0]
  have HL0 := Lib.hid hl0
  have l1 : -2000000 ≤ l0 ∧ l0 ≤ 1000000000 := by omega
  obtain ⟨l1, l2⟩ := l1
  clear hl0 s0 s1
  go_wp2
  go_loopw [7, 20] (fun t v wr => ∃ (k : Nat) (cur : Array Value), k ≤ n ∧ v = .int .i64 k ∧ t = .int .i64 (lft (caps.take k) h l0) ∧ Below w.heap.size w wr ∧ Has wr w.heap.size 30 #[.slice A n c] ∧ Has wr g 3 cur ∧ cur.size = cap ∧ Cur cur (advL caps h l0 k)) (fun _ v _ => n - (intOf v).toNat)
  case atStart => exact ⟨0, cur, by omega, rfl, by simp [lft], HB3.out, X23.out, HG3.out, hgs, by simpa [advL, spread] using HGR.out⟩
  case round =>
    obtain ⟨k, cr, hk, rfl, rfl, hB, hX, hG, hS, hC⟩ := hrel
    have HB := Lib.hid hB; have HX := Lib.hid hX; have HGk := Lib.hid hG; have HS := Lib.hid hS; have HC := Lib.hid hC
    have zg := hG.lt
    have zx := hX.lt
    clear hB hX hG hS hC
    have HLb := lft_bd (caps.take k) h l0
    by_cases hkn : k < n
    · have hkl : k < caps.length := by rw [HN.out]; exact hkn
      obtain ⟨b, o, he⟩ := HA.out.addr (by omega)
      have hx := List.getElem?_eq_getElem hkl
      have hxc := HCp.out _ (List.getElem_mem hkl)
      have HM := Lib.hid (fun hc => advL_more (h := (h : Int)) (l := l0) hkl hc)
      have HSm := Lib.hid (fun hc => advL_same (h := (h : Int)) (l := l0) hkl hc)
      have HLn := Lib.hid (lft_next (h := (h : Int)) (l := l0) hkl)
      have HGt := Lib.hid (advL_get (h := (h : Int)) (l := l0) hkl)
      obtain ⟨x, hxx⟩ : ∃ x, x = caps[k] := ⟨_, rfl⟩
      rw [← hxx] at hx hxc HM HSm HLn HGt
      subst he
      have CA := Lib.hid fun (w' : World) (hb : Below w.heap.size w w') => (show w'.cell? ⟨b, o + k, none⟩ = some (.int .i64 x) from by have := (HA.out.keep hb).range inC_len hx 0 _ rfl; simpa using this)
      have hck := HC.out k _ HGt.out
      have CG := Lib.hid fun (w' : World) (hb : Below wr.heap.size wr w') => (show w'.cell? ⟨g, k, none⟩ = some (.int .i64 (min x h)) from by rw [(HGk.out.after hb).cell]; exact hck)
      have HKs := Lib.hid (show k < cr.size from (Array.getElem?_eq_some_iff.1 hck).1)
      obtain ⟨L, hL⟩ : ∃ L, L = lft (caps.take k) h l0 := ⟨_, rfl⟩
      rw [← hL] at HM HSm HLn HLb
      rw [← hL]
      obtain ⟨l3, l4⟩ := HLb
      obtain ⟨x0, x1⟩ := hxc
      clear hx hxx hck hL
      have hgw : w.heap.size ≤ g := Nat.le_trans HB1.out.size hg0
      have hgx : w.heap.size ≠ g := by have := X21.out.lt; omega
      by_cases hl : 0 < L
      · by_cases hm : min x (h : Int) < x
        · have hmi : min x (h : Int) + 1 ≤ 100001 := by omega
          have hmj : 0 ≤ min x (h : Int) := by omega
          have HMM := Lib.hid (HM.out ⟨hl, hm⟩)
          have HLL := Lib.hid (show lft (caps.take (k + 1)) h l0 = L - 1 by rw [HLn.out, if_pos ⟨hl, hm⟩])
          go_wp2
          refine wp_free 13 (by kernel_rfl) (by kernel_rfl) (by kernel_rfl) (by decide) ?_
          intro K hK
          iterate 13 (apply Obl.val (by decide) (by kernel_rfl); (intro w' hb; have := CG.out w' hb; have := CA.out w' (nextB HB.out hb); have q := (HX.out.after hb).cell; go_simp; rfl))
          apply Obl.nil
          apply hK
          intro w2 hb
          simp only [Act.put, List.setIfInBounds_toArray, List.set_cons_zero, List.set_cons_succ, List.drop_succ_cons, List.drop_zero]
          clear hK K
          have HB2' := Lib.hid (nextB HB.out hb); have HX2 := Lib.hid (HX.out.after hb); have HG2 := Lib.hid (HGk.out.after hb)
          have cg := CG.out w2 hb
          have fg := HG2.out.frozen k
          clear hb
          go_wp2
          go_roundw
          case rel => exact ⟨k + 1, cr.setIfInBounds k (.int .i64 (min x h + 1)), by omega, by go_num, by rw [HLL.out], setB HB2'.out hgw _, HX2.out.far hgx _, HG2.out.set k _, by simp [HS.out], by rw [HMM.out]; exact HC.out.set (by rw [advL_len]; exact hkl) _⟩
          case measure => simp [intOf]; omega
        · have hmd : decide (min x (h : Int) < x) = false := by simpa using hm
          have HMM := Lib.hid (HSm.out (fun hh => hm hh.2))
          have HLL := Lib.hid (show lft (caps.take (k + 1)) h l0 = L by rw [HLn.out, if_neg (fun hh => hm hh.2)])
          go_wp2
          refine wp_free 13 (by kernel_rfl) (by kernel_rfl) (by kernel_rfl) (by decide) ?_
          intro K hK
          iterate 13 (apply Obl.val (by decide) (by kernel_rfl); (intro w' hb; have := CG.out w' hb; have := CA.out w' (nextB HB.out hb); have q := (HX.out.after hb).cell; go_simp; rfl))
          apply Obl.nil
          apply hK
          intro w2 hb
          simp only [Act.put, List.setIfInBounds_toArray, List.set_cons_zero, List.set_cons_succ, List.drop_succ_cons, List.drop_zero]
          clear hK K
          have HB2' := Lib.hid (nextB HB.out hb); have HX2 := Lib.hid (HX.out.after hb); have HG2 := Lib.hid (HGk.out.after hb)
          clear hb
          go_wp2
          go_roundw
          case rel => exact ⟨k + 1, cr, by omega, by go_num, by rw [HLL.out], HB2'.out, HX2.out, HG2.out, HS.out, by rw [HMM.out]; exact HC.out⟩
          case measure => simp [intOf]; omega
      · have hld : decide (0 < L) = false := by simpa using hl
        have HMM := Lib.hid (HSm.out (fun hh => hl hh.1))
        have HLL := Lib.hid (show lft (caps.take (k + 1)) h l0 = L by rw [HLn.out, if_neg (fun hh => hl hh.1)])
        go_wp2
        refine wp_free 13 (by kernel_rfl) (by kernel_rfl) (by kernel_rfl) (by decide) ?_
        intro K hK
        iterate 3 (apply Obl.val (by decide) (by kernel_rfl); (intro w' hb; have := CG.out w' hb; have := CA.out w' (nextB HB.out hb); have q := (HX.out.after hb).cell; go_simp; rfl))
        iterate 9 (apply Obl.skip (by decide) (by kernel_rfl))
        iterate 1 (apply Obl.val (by decide) (by kernel_rfl); (intro w' hb; have := CG.out w' hb; have := CA.out w' (nextB HB.out hb); have q := (HX.out.after hb).cell; go_simp; rfl))
        apply Obl.nil
        apply hK
        intro w2 hb
        simp only [Act.put, List.setIfInBounds_toArray, List.set_cons_zero, List.set_cons_succ, List.drop_succ_cons, List.drop_zero]
        clear hK K
        have HB2' := Lib.hid (nextB HB.out hb); have HX2 := Lib.hid (HX.out.after hb); have HG2 := Lib.hid (HGk.out.after hb)
        clear hb
        go_wp2
        go_roundw
        case rel => exact ⟨k + 1, cr, by omega, by go_num, by rw [HLL.out], HB2'.out, HX2.out, HG2.out, HS.out, by rw [HMM.out]; exact HC.out⟩
        case measure => simp [intOf]; omega
    · have hkn' : k = n := by omega
      subst hkn'
      have HFin := Lib.hid (show advL caps h l0 k = fairL caps bud h by
        unfold advL fairL
        rw [List.take_of_length_le (by rw [HN.out]; omega), List.drop_eq_nil_of_le (by rw [HN.out]; omega), HL0.out]
        simp [levL])
      have HFl := Lib.hid (show (fairL caps bud h).length = k by unfold fairL; rw [spread_len]; exact HN.out)
      have hgw : w.heap.size ≤ g := Nat.le_trans HB1.out.size hg0
      go_wp2
      exact bodyPost_ret (results_tmp rfl _ _ _) rfl ⟨fairL caps bud h, ⟨h, HF.out, rfl⟩, .slice (some ⟨g, 0, none⟩) k cap, rfl, Own.shutI hgw HGk.out HS.out HFl.out hgc hgm (by rw [← HFin.out]; exact HC.out), HB.out⟩
end Go.Proofs
namespace Go.Proofs
open Go.RowKit Go.Shelf
attribute [local go_sem ↓] Go.wp_at_zero Go.wp_at_succ

def surelyF (ps : List Pe) (pool : Int) (k : Nat) : Int := max (pool * (ps.getD k ⟨0, 0, 0⟩).p / sumI (ps.map Pe.p) - (ps.getD k ⟨0, 0, 0⟩).d) 0
def capsL (ps : List Pe) (ws : List Int) (pool : Int) : List Int := (List.range ps.length).map fun k => min (ws.getD k 0) (surelyF ps pool k)
theorem Seas.psum {ps : List Pe} {ls : List La} (h : Seas ps ls) : 1 ≤ sumI (ps.map Pe.p) ∧ sumI (ps.map Pe.p) ≤ 24 := by
  obtain ⟨x, r, rfl, _, _⟩ := h.house
  have hx := h.pe x (by simp)
  have := sumI_nonneg (r.map Pe.p) (fun y hy => by
    obtain ⟨z, hz, rfl⟩ := List.mem_map.1 hy
    have := h.pe z (by simp [hz]); omega)
  refine ⟨?_, h.sum⟩
  simp only [List.map_cons, sumI]; omega

set_option maxHeartbeats 2000000 in
set_option maxRecDepth 20000 in
theorem caps_c (s : Sv) (hs : Seas s.ps s.ls) (A : Option Addr) (n c : Nat) (ws : List Int) (pool : Int) (hp : 0 ≤ pool ∧ pool ≤ 600000) (hn : n = s.pn) (hws : ∀ x ∈ ws, 0 ≤ x ∧ x ≤ 100000) (w : World) (hi : s.In w) (hA : SlOf inC 1 w A n ws) :
    Calls Tryz.prog 104 #[s.val, .slice A n c, .int .i64 pool] w (Gives eI w (capsL s.ps ws pool)) := by
  have hpn : s.pn ≤ 6 := by rw [← hi.ps.1]; exact hs.six
  have HPs := Lib.hid hs.psum
  have HSe := Lib.hid hs
  obtain ⟨pA, lA, pn, pc, ln, lc, ps, ls⟩ := s
  obtain ⟨hpp, hl⟩ := hi
  simp only [Sv.val] at *
  subst hn
  have HP := Lib.hid hpp; have HPN := Lib.hid hpp.1; have HA := Lib.hid hA; have HN := Lib.hid hA.1; have HWs := Lib.hid hws
  have HPt := Lib.hid fun (w' : World) (hb : Below w.heap.size w w') => partsOf_c pA n pc ps (by omega) (fun x hx => by have := hs.pe x hx; omega) w' (hpp.keep hb)
  clear hpp hl hA hws hs
  obtain ⟨hp0, hp1⟩ := hp
  have hmk := makeI n (by omega)
  have F0 := Lib.hid (Has.new w 25 #[.slice pA n pc, .slice lA ln lc])
  have B0 := Lib.hid (newB (Below.refl w.heap.size w) (.cells #[.slice pA n pc, .slice lA ln lc] 25))
  obtain ⟨T, hT⟩ : ∃ T, T = sumI (ps.map Pe.p) := ⟨_, rfl⟩
  rw [← hT] at HPs HPt
  have HT := Lib.hid hT
  clear hT
  go_enter Tryz.func104, Tryz.ntmps104
  go_wp2_with (go_at_call 126; refine (HPt.out _ B0.out).mono ?_; rintro e w1 ⟨rfl, hb1⟩; have HB1 := Lib.hid (nextB B0.out hb1); have HF1 := Lib.hid (F0.out.after hb1); have q1 := (F0.out.after hb1).cell; have zf := (F0.out.after hb1).lt; clear hb1)
  have Z := Lib.hid (Has.new w1 3 (madeCells #[.int .i64 0] n))
  have HB2 := Lib.hid (newB HB1.out (.cells (madeCells #[.int .i64 0] n) 3))
  have HSZ := Lib.hid (size_madeCells #[.int .i64 0] n)
  have hzw := HB1.out.size
  generalize w1.alloc (.cells (madeCells #[.int .i64 0] n) 3) = W0 at *
  generalize madeCells #[.int .i64 0] n = mc at *
  clear hmk
  go_loopw [21] (fun v wr => ∃ (j : Nat) (cur : Array Value), j ≤ n ∧ v = .int .i64 j ∧ Below w.heap.size w wr ∧ Has wr w1.heap.size 3 cur ∧ cur.size = n
    ∧ ∀ i, i < j → cur[i]? = some (.int .i64 (min (ws.getD i 0) (surelyF ps pool i)))) (fun v _ => n - (intOf v).toNat)
  case atStart => exact ⟨0, mc, by omega, rfl, HB2.out, Z.out, HSZ.out, fun j hj => by omega⟩
  case round =>
    obtain ⟨j, cur, hj, rfl, hB, hZ, hS, hC⟩ := hrel
    have HB := Lib.hid hB; have HZ := Lib.hid hZ; have HS := Lib.hid hS; have HC := Lib.hid hC
    have hz := hZ.lt
    clear hB hZ hS hC q1
    by_cases hjn : j < n
    · have hkl : j < ps.length := by rw [HPN.out]; exact hjn
      have hwl : j < ws.length := by rw [HN.out]; exact hjn
      obtain ⟨b, o, he⟩ := HP.out.addr (by omega)
      obtain ⟨b2, o2, he2⟩ := HA.out.addr (by omega)
      have hx := List.getElem?_eq_getElem hkl
      have hy := List.getElem?_eq_getElem hwl
      have hpe := HSe.out.pe _ (List.getElem_mem hkl)
      have hye := HWs.out _ (List.getElem_mem hwl)
      obtain ⟨x, hxx⟩ : ∃ x, x = ps[j] := ⟨_, rfl⟩
      obtain ⟨y, hyy⟩ : ∃ y, y = ws[j] := ⟨_, rfl⟩
      rw [← hxx] at hx hpe
      rw [← hyy] at hy hye
      have hgx : ps.getD j ⟨0, 0, 0⟩ = x := by simp [List.getD_eq_getElem?_getD, hx]
      have hgy : ws.getD j 0 = y := by simp [List.getD_eq_getElem?_getD, hy]
      subst he; subst he2
      obtain ⟨x0, x1, x2⟩ := x
      have hR := Lib.hid (show wr.rangeAt b (o + j * 3) [.int .i64 x0, .int .i64 x1, .int .i64 x2] from (HP.out.keep HB.out).range Pe.cs_len hx)
      have CY := Lib.hid fun (w' : World) (hb : Below w.heap.size w w') => (show w'.cell? ⟨b2, o2 + j, none⟩ = some (.int .i64 y) from by have := (HA.out.keep hb).range inC_len hy 0 _ rfl; simpa using this)
      obtain ⟨p0, p1, p2, p3, _⟩ := hpe
      simp only at p0 p1 p2 p3
      have hm := mul_bd2 ⟨hp0, hp1⟩ (show 0 ≤ x0 ∧ x0 ≤ 24 by omega)
      have hq := div_bd (d := pool * x0) (p := T) (D := 14400000) (by omega) HPs.out.1
      have HTd := Lib.hid (show Int.tdiv (pool * x0) T = pool * x0 / T from Int.tdiv_eq_ediv_of_nonneg hm.1)
      have HSu := Lib.hid (show surelyF ps pool j = max (pool * x0 / T - x1) 0 by unfold surelyF; rw [hgx, ← HT.out])
      have HGy := Lib.hid hgy
      have X10 := Lib.hid (Has.new wr 49 #[.int .i64 x0, .int .i64 x1, .int .i64 x2])
      have BX := Lib.hid (newB (Below.refl wr.heap.size wr) (.cells #[.int .i64 x0, .int .i64 x1, .int .i64 x2] 49))
      have HNx := Lib.hid (cur_next (F := fun i => min (ws.getD i 0) (surelyF ps pool i)) HS.out hjn HC.out)
      have HKs := Lib.hid (show j < cur.size by rw [HS.out]; exact hjn)
      obtain ⟨m0, m1⟩ := hm; obtain ⟨q0, q1⟩ := hq
      clear hx hxx hy hyy hgx hgy
      go_wp2_with (refine wpList_load_mid rfl 49 _ rfl b (o + j * 3) rfl _ _ hR.out Tryz.underlying49 rfl (by kernel_rfl) ?_)
      have B6 := Lib.hid (nextB HB.out BX.out); have HZ6 := Lib.hid (HZ.out.after BX.out)
      generalize wr.alloc (.cells #[.int .i64 x0, .int .i64 x1, .int .i64 x2] 49) = W1 at *
      refine wp_free 11 (by kernel_rfl) (by kernel_rfl) (by kernel_rfl) (by decide) ?_
      intro K hK
      iterate 3 (apply Obl.val (by decide) (by kernel_rfl); (intro w' hb; have := (X10.out.after hb).cell; go_simp; rfl))
      apply Obl.val (v := .int .i64 (pool * x0)) (by decide) (by kernel_rfl)
      · intro w' hb; go_simp; rw [IntKind.wrap_i64]; generalize pool * x0 = z at *; omega
      apply Obl.val (by decide) (by kernel_rfl)
      · intro w' hb; go_simp; rfl
      apply Obl.val (v := .int .i64 (pool * x0 / T)) (by decide) (by kernel_rfl)
      · intro w' hb; have := HTd.out; have hT0 : ¬ T = 0 := by have := HPs.out; omega
        go_simp; rw [IntKind.wrap_i64]; omega
      iterate 2 (apply Obl.val (by decide) (by kernel_rfl); (intro w' hb; have := (X10.out.after hb).cell; go_simp; rfl))
      apply Obl.val (v := .int .i64 (pool * x0 / T - x1)) (by decide) (by kernel_rfl)
      · intro w' hb; go_simp; rw [IntKind.wrap_i64]; omega
      apply Obl.val (v := .int .i64 (surelyF ps pool j)) (by decide) (by kernel_rfl)
      · intro w' hb; have := HSu.out; go_simp; split <;> omega
      apply Obl.val (by decide) (by kernel_rfl)
      · intro w' hb; go_simp; rfl
      apply Obl.nil
      apply hK
      intro w2 hb
      simp only [Act.put, List.setIfInBounds_toArray, List.set_cons_zero, List.set_cons_succ, List.drop_succ_cons, List.drop_zero]
      clear hK K
      have HB3 := Lib.hid (nextB B6.out hb); have HZ3 := Lib.hid (HZ6.out.after hb)
      clear hb m0 m1 q0 q1
      have cy := CY.out w2 HB3.out
      have cz := HZ3.out.cell
      have fz := HZ3.out.frozen
      have lz := HZ3.out.lt
      have hcj : cur[j]? = some (cur[j]'(by rw [HS.out]; exact hjn)) := Array.getElem?_eq_getElem _
      obtain ⟨S, hS⟩ : ∃ S, S = surelyF ps pool j := ⟨_, rfl⟩
      rw [← hS]
      have HS2 := Lib.hid hS
      clear hS
      by_cases hlt : S < y
      · have HMn := Lib.hid (show min (ws.getD j 0) (surelyF ps pool j) = S by rw [HGy.out, ← HS2.out]; omega)
        go_wp2
        go_roundw
        case rel => exact ⟨j + 1, cur.setIfInBounds j (.int .i64 (min (ws.getD j 0) (surelyF ps pool j))), by omega, by go_num, setB HB3.out (by simpa using hzw) _, by rw [HMn.out]; simpa using HZ3.out.set j _, by simp [HS.out], HNx.out⟩
        case measure => simp [intOf]; omega
      · have HMn := Lib.hid (show min (ws.getD j 0) (surelyF ps pool j) = y by rw [HGy.out, ← HS2.out]; omega)
        go_wp2
        go_roundw
        case rel => exact ⟨j + 1, cur.setIfInBounds j (.int .i64 (min (ws.getD j 0) (surelyF ps pool j))), by omega, by go_num, setB HB3.out (by simpa using hzw) _, by rw [HMn.out]; simpa using HZ3.out.set j _, by simp [HS.out], HNx.out⟩
        case measure => simp [intOf]; omega
    · have hjn' : j = n := by omega
      subst hjn'
      have HFl := Lib.hid (cur_flat (F := fun i => min (ws.getD i 0) (surelyF ps pool i)) HS.out HC.out)
      have HE := Lib.hid (show capsL ps ws pool = (List.range j).map (fun i => min (ws.getD i 0) (surelyF ps pool i)) by unfold capsL; rw [HPN.out])
      go_wp2
      exact bodyPost_ret (results_tmp rfl _ _ _) rfl ⟨.slice (some ⟨w1.heap.size, 0, none⟩) j j, rfl, Own.of_has (n := j) (xs := capsL ps ws pool) eI_ok HZ.out hzw (by rw [HE.out]; simp) (by rw [HS.out]; exact (Nat.mul_one j).symm) (by rw [HE.out]; exact HFl.out) (by unfold maxLen; omega), HB.out⟩
end Go.Proofs
namespace Go.Proofs
open Go.RowKit Go.Shelf
attribute [local go_sem ↓] Go.wp_at_zero Go.wp_at_succ

theorem coinsB_ok {n : Nat} {xs : List Int} (h : coinsB n xs = true) : xs.length = n ∧ (xs.getD 0 0 = 0) ∧ ∀ x ∈ xs, 0 ≤ x ∧ x ≤ 100000 := by
  simp only [coinsB, Bool.and_eq_true, decide_eq_true_eq, beq_iff_eq, List.all_eq_true, inB] at h
  exact ⟨h.1.1, h.1.2, h.2⟩
def easterB (ps : List Pe) (ls : List La) (ws : List Int) (bud pool : Int) : Bool := seasonB ps ls && coinsB ps.length ws && inB bud 0 600000 && inB pool 0 600000
theorem capsL_bd {ps : List Pe} {ls : List La} {ws : List Int} {pool : Int} (_ : Seas ps ls) (hw : coinsB ps.length ws = true) : ∀ c ∈ capsL ps ws pool, 0 ≤ c ∧ c ≤ 100000 := by
  intro c hc
  obtain ⟨k, hk, rfl⟩ := List.mem_map.1 hc
  have hkl : k < ps.length := by simpa using hk
  obtain ⟨h1, _, h2⟩ := coinsB_ok hw
  have hwl : k < ws.length := by omega
  have hg : ws.getD k 0 = ws[k] := by simp [List.getD_eq_getElem?_getD, List.getElem?_eq_getElem hwl]
  have := h2 _ (List.getElem_mem hwl)
  rw [hg]
  unfold surelyF
  omega

set_option maxHeartbeats 2000000 in
theorem easter_no (s : Sv) (hpn : s.pn ≤ 1000) (hln : s.ln ≤ 1000) (A : Option Addr) (n c : Nat) (ws : List Int) (bud pool : Int) (hn : n ≤ 1000000) (hno : easterB s.ps s.ls ws bud pool = false) (w : World) (hi : s.In w) (hA : SlOf inC 1 w A n ws) :
    Calls Tryz.prog 47 #[s.val, .slice A n c, .int .i64 bud, .int .i64 pool] w fun e w' => e = .returned (.tuple #[.slice none 0 0, .int .i64 2]) ∧ Below w.heap.size w w' := by
  have HC := Lib.hid fun (w' : World) (hb : Below w.heap.size w w') => check_c s (by omega) (by omega) w' (hi.keep hb)
  have hpl : s.ps.length = s.pn := hi.ps.1
  have HAr := Lib.hid fun (h2 : 2 ≤ s.pn) (w' : World) (hb : Below w.heap.size w w') => areCoins_c s h2 hpn A n c ws hn w' (hA.keep hb)
  have h22 : seasonB s.ps s.ls = true → 2 ≤ s.pn := fun h => by rw [← hpl]; exact ((seas_iff _ _).1 h).two
  obtain ⟨pA, lA, pn, pc, ln, lc, ps, ls⟩ := s
  simp only [Sv.val] at *
  have F0 := Lib.hid (Has.new w 25 #[.slice pA pn pc, .slice lA ln lc])
  have B0 := Lib.hid (newB (Below.refl w.heap.size w) (.cells #[.slice pA pn pc, .slice lA ln lc] 25))
  clear hi hA
  cases h1 : seasonB ps ls
  · rw [h1] at HC
    clear h22 hno h1
    go_enter Tryz.func47, Tryz.ntmps47
    go_wp2_with (go_at_call 25; refine (HC.out _ B0.out).mono ?_; rintro e w1 ⟨rfl, hb1⟩; rw [show errI false = 2 from rfl]; have HB1 := Lib.hid (nextB B0.out hb1); clear hb1)
    exact bodyPost_ret (results_tmp2 rfl _ _ _) rfl ⟨rfl, HB1.out⟩
  · have h2 := h22 h1
    replace HAr := Lib.hid (HAr.out h2)
    rw [h1] at HC
    cases h3 : coinsB pn ws
    · rw [h3] at HAr
      clear h22 hno h1
      go_enter Tryz.func47, Tryz.ntmps47
      go_wp2_with (first
        | (go_at_call 25; refine (HC.out _ B0.out).mono ?_; rintro e w1 ⟨rfl, hb1⟩; rw [show errI true = 0 from rfl]; have HB1 := Lib.hid (nextB B0.out hb1); have HF1 := Lib.hid (F0.out.after hb1); have q1 := (F0.out.after hb1).cell; clear hb1)
        | (go_at_call 101; refine (HAr.out _ HB1.out).mono ?_; rintro e w2 ⟨rfl, hb2⟩; have HB2 := Lib.hid (nextB HB1.out hb2); clear hb2))
      exact bodyPost_ret (results_tmp2 rfl _ _ _) rfl ⟨rfl, HB2.out⟩
    · rw [h3] at HAr
      cases h4 : inB bud 0 600000
      · have H4 := Lib.hid h4
        clear h22 hno h1 h4
        go_enter Tryz.func47, Tryz.ntmps47
        go_wp2_with (first
          | (go_at_call 25; refine (HC.out _ B0.out).mono ?_; rintro e w1 ⟨rfl, hb1⟩; rw [show errI true = 0 from rfl]; have HB1 := Lib.hid (nextB B0.out hb1); have HF1 := Lib.hid (F0.out.after hb1); have q1 := (F0.out.after hb1).cell; clear hb1)
          | (go_at_call 101; refine (HAr.out _ HB1.out).mono ?_; rintro e w2 ⟨rfl, hb2⟩; have HB2 := Lib.hid (nextB HB1.out hb2); clear hb2)
          | (go_at_call 102; refine (within_c _ _ _ _).mono ?_; rintro e w3 ⟨rfl, rfl⟩; rw [H4.out]))
        exact bodyPost_ret (results_tmp2 rfl _ _ _) rfl ⟨rfl, HB2.out⟩
      · have h5 : inB pool 0 600000 = false := by
          have := hno
          simp only [easterB, h1, h4, hpl, h3] at this
          simpa using this
        have H4 := Lib.hid h4; have H5 := Lib.hid h5
        clear h22 hno h1 h4 h5
        go_enter Tryz.func47, Tryz.ntmps47
        go_wp2_with (first
          | (go_at_call 25; refine (HC.out _ B0.out).mono ?_; rintro e w1 ⟨rfl, hb1⟩; rw [show errI true = 0 from rfl]; have HB1 := Lib.hid (nextB B0.out hb1); have HF1 := Lib.hid (F0.out.after hb1); have q1 := (F0.out.after hb1).cell; clear hb1)
          | (go_at_call 101; refine (HAr.out _ HB1.out).mono ?_; rintro e w2 ⟨rfl, hb2⟩; have HB2 := Lib.hid (nextB HB1.out hb2); clear hb2)
          | (go_at_call 102; refine (within_c _ _ _ _).mono ?_; rintro e w3 ⟨rfl, rfl⟩; first | rw [H4.out] | rw [H5.out]))
        exact bodyPost_ret (results_tmp2 rfl _ _ _) rfl ⟨rfl, HB2.out⟩

set_option maxHeartbeats 2000000 in
set_option maxRecDepth 20000 in
theorem easter_ok (s : Sv) (A : Option Addr) (n c : Nat) (ws : List Int) (bud pool : Int) (hok : easterB s.ps s.ls ws bud pool = true) (w : World) (hi : s.In w) (hA : SlOf inC 1 w A n ws) :
    Calls Tryz.prog 47 #[s.val, .slice A n c, .int .i64 bud, .int .i64 pool] w fun e w' => ∃ xs v, IsFair (capsL s.ps ws pool) bud xs ∧ e = .returned (.tuple #[v, .int .i64 0]) ∧ Own eI w.heap.size v xs w' ∧ Below w.heap.size w w' := by
  have hok2 := hok
  simp only [easterB, Bool.and_eq_true] at hok2
  obtain ⟨⟨⟨h1, h3⟩, h4⟩, h5⟩ := hok2
  have hs := (seas_iff _ _).1 h1
  have hpl : s.ps.length = s.pn := hi.ps.1
  have hwl := (coinsB_ok h3).1
  obtain rfl : s.pn = n := by rw [← hA.1, hwl, hpl]
  have h2 := hs.two
  have h6 := hs.six
  have hfew := hs.few
  have hll : s.ls.length = s.ln := hi.ls.1
  have HC := Lib.hid fun (w' : World) (hb : Below w.heap.size w w') => check_c s (by omega) (by omega) w' (hi.keep hb)
  have HAr := Lib.hid fun (w' : World) (hb : Below w.heap.size w w') => areCoins_c s (by omega) (by omega) A _ c ws (by omega) w' (hA.keep hb)
  have hb4 := h4; have hb5 := h5
  simp only [inB, decide_eq_true_eq] at hb4 hb5
  have HCa := Lib.hid fun (w' : World) (hb : Below w.heap.size w w') => caps_c s hs A _ c ws pool hb5 rfl (coinsB_ok h3).2.2 w' (hi.keep hb) (hA.keep hb)
  have HCb := Lib.hid (capsL_bd (pool := pool) hs h3)
  have HCl := Lib.hid (show (capsL s.ps ws pool).length = s.pn by simp [capsL, hpl])
  rw [h1] at HC
  rw [show coinsB s.pn ws = true by rw [← hpl]; exact h3] at HAr
  obtain ⟨pA, lA, pn, pc, ln, lc, ps, ls⟩ := s
  simp only [Sv.val] at *
  have F0 := Lib.hid (Has.new w 25 #[.slice pA pn pc, .slice lA ln lc])
  have B0 := Lib.hid (newB (Below.refl w.heap.size w) (.cells #[.slice pA pn pc, .slice lA ln lc] 25))
  have H4 := Lib.hid h4; have H5 := Lib.hid h5; have HB4 := Lib.hid hb4
  clear hi hA h1 h3 h4 h5 hb4 hb5 hok hs hwl hll hfew
  have h6' : pn ≤ 6 := by omega
  have h2' : 2 ≤ pn := by omega
  clear hpl h2 h6
  generalize capsL ps ws pool = cs at *
  go_enter Tryz.func47, Tryz.ntmps47
  go_wp2_with (first
    | (go_at_call 25; refine (HC.out _ B0.out).mono ?_; rintro e w1 ⟨rfl, hb1⟩; rw [show errI true = 0 from rfl]; have HB1 := Lib.hid (nextB B0.out hb1); have HF1 := Lib.hid (F0.out.after hb1); have q1 := (F0.out.after hb1).cell; clear hb1)
    | (go_at_call 101; refine (HAr.out _ HB1.out).mono ?_; rintro e w2 ⟨rfl, hb2⟩; have HB2 := Lib.hid (nextB HB1.out hb2); have HF2 := Lib.hid (HF1.out.after hb2); have q2 := (HF1.out.after hb2).cell; clear hb2 q1)
    | (go_at_call 102; refine (within_c _ _ _ _).mono ?_; rintro e w3 ⟨rfl, rfl⟩; first | rw [H4.out] | rw [H5.out])
    | (refine wpList_load_row rfl 25 _ rfl w.heap.size rfl 25 _ (0, 0) _ HF2.out Tryz.underlying25 rfl (by kernel_rfl) ?_)
    | (go_at_call 104; refine (HCa.out _ HB2.out).mono ?_; rintro e w4 ⟨v, rfl, ho, hb4⟩; obtain ⟨A4, c4, rfl, hsl, _⟩ := Own.sl ho; rw [HCl.out] at hsl ⊢; have HSl := Lib.hid hsl; have HB5 := Lib.hid (nextB HB2.out hb4); clear ho hsl hb4)
    | (go_at_call 103; refine (fairest_c A4 pn c4 cs bud (by have := HB4.out; omega) (by omega) (by omega) HCb.out _ HSl.out).mono ?_; rintro e w5 ⟨xs, hf, v, rfl, ho, hb5⟩; have HFr := Lib.hid hf; have HO := Lib.hid (Own.lower ho HB5.out.size); have HB6 := Lib.hid (nextB HB5.out hb5); clear hf ho hb5))
  exact bodyPost_ret (results_tmp2 rfl _ _ _) rfl ⟨xs, _, HFr.out, rfl, HO.out, HB6.out⟩
end Go.Proofs
namespace Go.Proofs
open Go.RowKit Go.Shelf
attribute [local go_sem ↓] Go.wp_at_zero Go.wp_at_succ

theorem Own.from {α : Type} {e : El α} {base b o n c : Nat} {xs : List α} {w : World} (h : Own e base (.slice (some ⟨b, o, none⟩) n c) xs w) : base ≤ b := by
  rcases h.2 with ⟨h, _⟩ | ⟨g, cap, cur, e1, e2, _⟩
  · cases h
  · cases e1; exact e2
theorem SlOf.far {α : Type} {f : α → List Value} {sz : Nat} {w : World} {b o n : Nat} {xs : List α} (h : SlOf f sz w (some ⟨b, o, none⟩) n xs) {p : Addr} (hp : b ≠ p.block) (u : Value) : SlOf f sz (w.setCell p u) (some ⟨b, o, none⟩) n xs := by
  refine ⟨h.1, h.2.1, fun hn => ?_⟩
  obtain ⟨b', o', e, hc⟩ := h.2.2 hn
  cases e
  refine ⟨b, o, rfl, fun j v hv => ?_⟩
  rw [← hc j v hv]
  exact World.cell?_of_block (a := ⟨b, o + j, none⟩) (Below.heap_setCell w p u b hp)

def advOk (ps : List Pe) (xs : List Int) (k : Nat) : Bool := (ps.getD k ⟨0, 0, 0⟩).f == 1 || !decide (0 < xs.getD k 0)
def advB (ps : List Pe) (xs : List Int) : Bool := coinsB ps.length xs && (List.range ps.length).all (advOk ps xs)

set_option maxHeartbeats 2000000 in
theorem areAdvances_c (s : Sv) (h2 : 2 ≤ s.pn) (hp : s.pn ≤ 1000) (A : Option Addr) (n c : Nat) (xs : List Int) (hn : n ≤ 1000000) (w : World) (hi : s.In w) (hA : SlOf inC 1 w A n xs) :
    Calls Tryz.prog 107 #[s.val, .slice A n c] w fun e w' => e = .returned (.bool (advB s.ps xs)) ∧ Below w.heap.size w w' := by
  have hpl : s.ps.length = s.pn := hi.ps.1
  have HC := Lib.hid fun (w' : World) (hb : Below w.heap.size w w') => areCoins_c s h2 hp A n c xs hn w' (hA.keep hb)
  rw [show advB s.ps xs = (coinsB s.pn xs && (List.range s.pn).all (advOk s.ps xs)) by unfold advB; rw [hpl]]
  obtain ⟨pA, lA, pn, pc, ln, lc, ps, ls⟩ := s
  obtain ⟨hpp, _⟩ := hi
  simp only [Sv.val] at *
  have HP := Lib.hid hpp; have HPN := Lib.hid hpl; have HA := Lib.hid hA
  have F0 := Lib.hid (Has.new w 25 #[.slice pA pn pc, .slice lA ln lc])
  have B0 := Lib.hid (newB (Below.refl w.heap.size w) (.cells #[.slice pA pn pc, .slice lA ln lc] 25))
  have hAn := hA.1
  clear hpp hA hpl
  cases h1 : coinsB pn xs
  · rw [h1] at HC
    clear h1
    go_enter Tryz.func107, Tryz.ntmps107
    go_wp2_with (go_at_call 101; refine (HC.out _ B0.out).mono ?_; rintro e w1 ⟨rfl, hb1⟩; have HB1 := Lib.hid (nextB B0.out hb1); clear hb1)
    exact bodyPost_ret (results_tmp rfl _ _ _) rfl ⟨rfl, HB1.out⟩
  · rw [h1] at HC
    obtain ⟨hlen, _, hbd⟩ := coinsB_ok h1
    obtain rfl : n = pn := by omega
    have HXB := Lib.hid hbd; have HXL := Lib.hid hlen
    clear h1 hbd hlen hAn
    go_enter Tryz.func107, Tryz.ntmps107
    go_wp2_with (go_at_call 101; refine (HC.out _ B0.out).mono ?_; rintro e w1 ⟨rfl, hb1⟩; have HB1 := Lib.hid (nextB B0.out hb1); have q1 := (F0.out.after hb1).cell; clear hb1)
    go_loopw [14] (fun v wr => ∃ k : Nat, k ≤ n ∧ v = .int .i64 k ∧ Below w.heap.size w wr ∧ ∀ j, j < k → advOk ps xs j = true) (fun v _ => n - (intOf v).toNat)
    case atStart => exact ⟨0, by omega, rfl, HB1.out, fun j hj => absurd hj (by omega)⟩
    case round =>
      obtain ⟨k, hk, rfl, hB, hAl⟩ := hrel
      have HB := Lib.hid hB; have HAl := Lib.hid hAl
      clear hB hAl q1
      by_cases hkn : k < n
      · have hkl : k < ps.length := by rw [HPN.out]; exact hkn
        have hxl : k < xs.length := by rw [HXL.out]; exact hkn
        obtain ⟨b, o, he⟩ := HP.out.addr (by omega)
        obtain ⟨b2, o2, he2⟩ := HA.out.addr (by omega)
        have hx := List.getElem?_eq_getElem hkl
        have hy := List.getElem?_eq_getElem hxl
        obtain ⟨x, hxx⟩ : ∃ x, x = ps[k] := ⟨_, rfl⟩
        obtain ⟨y, hyy⟩ : ∃ y, y = xs[k] := ⟨_, rfl⟩
        rw [← hxx] at hx
        rw [← hyy] at hy
        have HOk := Lib.hid (show advOk ps xs k = (x.f == 1 || !decide (0 < y)) by unfold advOk; simp [List.getD_eq_getElem?_getD, hx, hy])
        subst he; subst he2
        obtain ⟨x0, x1, x2⟩ := x
        have hR := Lib.hid (show wr.rangeAt b (o + k * 3) [.int .i64 x0, .int .i64 x1, .int .i64 x2] from (HP.out.keep HB.out).range Pe.cs_len hx)
        have CY := Lib.hid fun (w' : World) (hb : Below w.heap.size w w') => (show w'.cell? ⟨b2, o2 + k, none⟩ = some (.int .i64 y) from by have := (HA.out.keep hb).range inC_len hy 0 _ rfl; simpa using this)
        simp only at HOk
        clear hx hxx hy hyy
        cases hst : (x2 == 1)
        · have T := Lib.hid hst
          by_cases hpos : 0 < y
          · have HNo := Lib.hid (show advOk ps xs k = false by rw [HOk.out, hst]; simp [hpos])
            clear hst
            go_wp2_with (first
              | (refine wpList_load_mid rfl 49 _ rfl b (o + k * 3) rfl _ _ hR.out Tryz.underlying49 rfl (by kernel_rfl) ?_)
              | (go_at_call 140; refine (stays_c _ _ _ _).mono ?_; rintro e w1 ⟨rfl, hb1⟩; rw [T.out]; have HB2 := Lib.hid (nextB (newB HB.out (.cells #[.int .i64 x0, .int .i64 x1, .int .i64 x2] 49)) hb1); have cy := CY.out _ HB2.out; clear hb1))
            refine bodyPost_ret (results_tmp rfl _ _ _) rfl ⟨?_, HB2.out⟩
            rw [show (List.range n).all (advOk ps xs) = false from List.all_eq_false.2 ⟨k, List.mem_range.2 hkn, by rw [HNo.out]; decide⟩]
            rfl
          · have hpd : decide (0 < y) = false := by simpa using hpos
            have HYes := Lib.hid (show advOk ps xs k = true by rw [HOk.out, hpd]; simp)
            clear hst
            go_wp2_with (first
              | (refine wpList_load_mid rfl 49 _ rfl b (o + k * 3) rfl _ _ hR.out Tryz.underlying49 rfl (by kernel_rfl) ?_)
              | (go_at_call 140; refine (stays_c _ _ _ _).mono ?_; rintro e w1 ⟨rfl, hb1⟩; rw [T.out]; have HB2 := Lib.hid (nextB (newB HB.out (.cells #[.int .i64 x0, .int .i64 x1, .int .i64 x2] 49)) hb1); have cy := CY.out _ HB2.out; clear hb1))
            go_roundw
            case rel => exact ⟨k + 1, by omega, by go_num, HB2.out, fun j hj => by rcases Nat.lt_succ_iff_lt_or_eq.1 hj with h | rfl; exact HAl.out j h; exact HYes.out⟩
            case measure => simp [intOf]; omega
        · have T := Lib.hid hst
          have HYes := Lib.hid (show advOk ps xs k = true by rw [HOk.out, hst]; rfl)
          clear hst
          go_wp2_with (first
            | (refine wpList_load_mid rfl 49 _ rfl b (o + k * 3) rfl _ _ hR.out Tryz.underlying49 rfl (by kernel_rfl) ?_)
            | (go_at_call 140; refine (stays_c _ _ _ _).mono ?_; rintro e w1 ⟨rfl, hb1⟩; rw [T.out]; have HB2 := Lib.hid (nextB (newB HB.out (.cells #[.int .i64 x0, .int .i64 x1, .int .i64 x2] 49)) hb1); clear hb1))
          go_roundw
          case rel => exact ⟨k + 1, by omega, by go_num, HB2.out, fun j hj => by rcases Nat.lt_succ_iff_lt_or_eq.1 hj with h | rfl; exact HAl.out j h; exact HYes.out⟩
          case measure => simp [intOf]; omega
      · have hall := Lib.hid (show (List.range n).all (advOk ps xs) = true from List.all_eq_true.2 fun j hj => HAl.out j (by have := List.mem_range.1 hj; omega))
        go_wp2
        exact bodyPost_ret (results_tmp rfl _ _ _) rfl ⟨by rw [hall.out]; rfl, HB.out⟩

def nextL (ps : List Pe) (ls : List La) (xs : List Int) : List Int := (List.range ps.length).map fun k => ((endsF ps ls).getD k ⟨0, 0, 0, 0, 0⟩).w + xs.getD k 0
theorem addHouse_len (m : Int) : ∀ l : List En, (addHouse m l).length = l.length
  | [] => rfl
  | _ :: _ => rfl
theorem endsF_len (ps : List Pe) (ls : List La) : (endsF ps ls).length = ps.length := by unfold endsF; rw [addHouse_len, ends_len]
theorem endF_owed {f sh d : Int} (hs : 0 ≤ sh) (hd : 0 ≤ d) : 0 ≤ (endF f sh d).w ∧ (endF f sh d).w ≤ d := by
  unfold endF
  split
  · simp only; omega
  · split
    · simp; omega
    · simp only; omega
theorem Seas.owed {ps : List Pe} {ls : List La} (h : Seas ps ls) {e : En} (he : e ∈ endsF ps ls) : 0 ≤ e.w ∧ e.w ≤ 100000 := by
  have key : ∀ x ∈ endsFrom ps ls, 0 ≤ x.w ∧ x.w ≤ 100000 := fun x hx => by
    unfold endsFrom at hx
    obtain ⟨k, hk, rfl⟩ := List.mem_map.1 hx
    have hkl : k < ps.length := by simpa using hk
    have hp := h.pe _ (List.getElem_mem hkl)
    have hg : ps.getD k ⟨0, 0, 0⟩ = ps[k] := by simp [List.getD_eq_getElem?_getD, List.getElem?_eq_getElem hkl]
    rw [hg]
    have := endF_owed (f := ps[k].f) (h.share k).1 hp.2.2.1
    omega
  unfold endsF at he
  cases hh : endsFrom ps ls with
  | nil => rw [hh] at he; simp [addHouse] at he
  | cons x r =>
    rw [hh] at he key
    simp only [addHouse] at he
    rcases List.mem_cons.1 he with rfl | he
    · exact key x (by simp)
    · exact key e (by simp [he])
end Go.Proofs
namespace Go.Proofs
open Go.RowKit Go.Shelf
attribute [local go_sem ↓] Go.wp_at_zero Go.wp_at_succ

def nextB' (ps : List Pe) (ls : List La) (xs : List Int) : Bool := seasonB ps ls && advB ps xs
set_option maxHeartbeats 2000000 in
theorem next_no (s : Sv) (hpn : s.pn ≤ 1000) (hln : s.ln ≤ 1000) (A : Option Addr) (n c : Nat) (xs : List Int) (hn : n ≤ 1000000) (hno : nextB' s.ps s.ls xs = false) (w : World) (hi : s.In w) (hA : SlOf inC 1 w A n xs) :
    Calls Tryz.prog 56 #[s.val, .slice A n c] w fun e w' => e = .returned (.tuple #[.slice none 0 0, .int .i64 2]) ∧ Below w.heap.size w w' := by
  have HC := Lib.hid fun (w' : World) (hb : Below w.heap.size w w') => check_c s (by omega) (by omega) w' (hi.keep hb)
  have hpl : s.ps.length = s.pn := hi.ps.1
  have HAr := Lib.hid fun (h2 : 2 ≤ s.pn) (w' : World) (hb : Below w.heap.size w w') => areAdvances_c s h2 hpn A n c xs hn w' (hi.keep hb) (hA.keep hb)
  have h22 : seasonB s.ps s.ls = true → 2 ≤ s.pn := fun h => by rw [← hpl]; exact ((seas_iff _ _).1 h).two
  obtain ⟨pA, lA, pn, pc, ln, lc, ps, ls⟩ := s
  simp only [Sv.val] at *
  have F0 := Lib.hid (Has.new w 25 #[.slice pA pn pc, .slice lA ln lc])
  have B0 := Lib.hid (newB (Below.refl w.heap.size w) (.cells #[.slice pA pn pc, .slice lA ln lc] 25))
  clear hi hA hpl
  cases h1 : seasonB ps ls
  · rw [h1] at HC
    clear h22 hno h1
    go_enter Tryz.func56, Tryz.ntmps56
    go_wp2_with (go_at_call 25; refine (HC.out _ B0.out).mono ?_; rintro e w1 ⟨rfl, hb1⟩; rw [show errI false = 2 from rfl]; have HB1 := Lib.hid (nextB B0.out hb1); clear hb1)
    exact bodyPost_ret (results_tmp2 rfl _ _ _) rfl ⟨rfl, HB1.out⟩
  · have h2 := h22 h1
    replace HAr := Lib.hid (HAr.out h2)
    rw [h1] at HC
    have h3 : advB ps xs = false := by simpa [nextB', h1] using hno
    rw [h3] at HAr
    clear h22 hno h1 h3
    go_enter Tryz.func56, Tryz.ntmps56
    go_wp2_with (first
      | (go_at_call 25; refine (HC.out _ B0.out).mono ?_; rintro e w1 ⟨rfl, hb1⟩; rw [show errI true = 0 from rfl]; have HB1 := Lib.hid (nextB B0.out hb1); have HF1 := Lib.hid (F0.out.after hb1); have q1 := (F0.out.after hb1).cell; clear hb1)
      | (go_at_call 107; refine (HAr.out _ HB1.out).mono ?_; rintro e w2 ⟨rfl, hb2⟩; have HB2 := Lib.hid (nextB HB1.out hb2); clear hb2))
    exact bodyPost_ret (results_tmp2 rfl _ _ _) rfl ⟨rfl, HB2.out⟩

set_option maxHeartbeats 4000000 in
set_option maxRecDepth 20000 in
theorem next_ok (s : Sv) (A : Option Addr) (n c : Nat) (xs : List Int) (hok : nextB' s.ps s.ls xs = true) (w : World) (hi : s.In w) (hA : SlOf inC 1 w A n xs) :
    Calls Tryz.prog 56 #[s.val, .slice A n c] w fun e w' => ∃ v, e = .returned (.tuple #[v, .int .i64 0]) ∧ Own eI w.heap.size v (nextL s.ps s.ls xs) w' ∧ Below w.heap.size w w' := by
  have hok2 := hok
  simp only [nextB', Bool.and_eq_true] at hok2
  obtain ⟨h1, h3⟩ := hok2
  have hs := (seas_iff _ _).1 h1
  have hpl : s.ps.length = s.pn := hi.ps.1
  have hcb : coinsB s.ps.length xs = true := by simp only [advB, Bool.and_eq_true] at h3; exact h3.1
  have hwl := (coinsB_ok hcb).1
  obtain rfl : s.pn = n := by rw [← hA.1, hwl, hpl]
  have h2 := hs.two
  have h6 := hs.six
  have hfew := hs.few
  have hll : s.ls.length = s.ln := hi.ls.1
  have HC := Lib.hid fun (w' : World) (hb : Below w.heap.size w w') => check_c s (by omega) (by omega) w' (hi.keep hb)
  have HAr := Lib.hid fun (w' : World) (hb : Below w.heap.size w w') => areAdvances_c s (by omega) (by omega) A _ c xs (by omega) w' (hi.keep hb) (hA.keep hb)
  have HS := Lib.hid fun (w' : World) (hb : Below w.heap.size w w') => settle_c s hs w' (hi.keep hb)
  have HT := Lib.hid fun (w' : World) (hb : Below w.heap.size w w') (b : Nat) (hm : MapAt w' b (clF s.ps s.ls)) => inTheEnd_c s hs b w' (hi.keep hb) hm
  have HXb := Lib.hid (coinsB_ok hcb).2.2
  have HXl := Lib.hid hA.1
  have HEl := Lib.hid (show (endsF s.ps s.ls).length = s.pn by rw [endsF_len, hpl])
  have HOw := Lib.hid fun e (he : e ∈ endsF s.ps s.ls) => hs.owed he
  have HPl := Lib.hid hpl
  rw [h1] at HC
  rw [h3] at HAr
  obtain ⟨pA, lA, pn, pc, ln, lc, ps, ls⟩ := s
  replace HS := Lib.hid (show ∀ (w' : World), Below w.heap.size w w' → Calls Tryz.prog 80 #[.agg #[.slice pA pn pc, .slice lA ln lc]] w' fun e w'' => ∃ g, e = .returned (.agg #[.slice pA pn pc, .slice lA ln lc, .int .i64 (denF ps ls), .map (some g)]) ∧ MapAt w'' g (clF ps ls) ∧ Below w'.heap.size w' w'' from HS.out)
  simp only [Sv.val, Sv.set] at *
  have HA := Lib.hid hA
  have F0 := Lib.hid (Has.new w 25 #[.slice pA pn pc, .slice lA ln lc])
  have B0 := Lib.hid (newB (Below.refl w.heap.size w) (.cells #[.slice pA pn pc, .slice lA ln lc] 25))
  have h2' : 2 ≤ pn := by omega
  have h6' : pn ≤ 6 := by omega
  clear hi hA h1 h3 hok hs hwl hll hfew hcb hpl h2 h6
  have hmk := makeI pn (by omega)
  generalize denF ps ls = d at *
  go_enter Tryz.func56, Tryz.ntmps56
  go_wp2_with (first
    | (go_at_call 25; refine (HC.out _ B0.out).mono ?_; rintro e w1 ⟨rfl, hb1⟩; rw [show errI true = 0 from rfl]; have HB1 := Lib.hid (nextB B0.out hb1); have HF1 := Lib.hid (F0.out.after hb1); have q1 := (F0.out.after hb1).cell; clear hb1)
    | (go_at_call 107; refine (HAr.out _ HB1.out).mono ?_; rintro e w2 ⟨rfl, hb2⟩; have HB2 := Lib.hid (nextB HB1.out hb2); have HF2 := Lib.hid (HF1.out.after hb2); have Z := Lib.hid (Has.new w2 3 (madeCells #[.int .i64 0] pn)); have BZ := Lib.hid (newB (Below.refl w2.heap.size w2) (.cells (madeCells #[.int .i64 0] pn) 3)); clear hb2 q1)
    | (refine wpList_load_row rfl 25 _ rfl w.heap.size rfl 25 _ (0, 0) _ (HF2.out.after BZ.out) Tryz.underlying25 rfl (by kernel_rfl) ?_)
    | (go_at_call 80; refine (HS.out _ (nextB HB2.out BZ.out)).mono ?_; rintro e w3 ⟨g, rfl, hm, hb3⟩; have HM3 := Lib.hid hm; have HB3 := Lib.hid (nextB (nextB HB2.out BZ.out) hb3); have Z3 := Lib.hid (Z.out.after hb3); clear hm hb3)
    | (go_at_call 88; refine (HT.out _ HB3.out g HM3.out).mono ?_; rintro e w4 ⟨v, rfl, ho, hb4⟩; obtain ⟨A4, c4, rfl, hsl, _⟩ := Own.sl ho; have HFr := Lib.hid (show ∀ b o, A4 = some ⟨b, o, none⟩ → w3.heap.size ≤ b from fun b o h => by subst h; exact Own.from ho); have h23 := Z3.out.lt; rw [HEl.out] at hsl ⊢; have HSl := Lib.hid hsl; have HB4 := Lib.hid (nextB HB3.out hb4); have Z4 := Lib.hid (Z3.out.after hb4); clear ho hsl hb4))
  have hw2 := HB2.out.size
  have HSZ := Lib.hid (size_madeCells #[.int .i64 0] pn)
  generalize madeCells #[.int .i64 0] pn = mc at *
  clear hmk
  go_loopw [25] (fun v wr => ∃ (j : Nat) (cur : Array Value), j ≤ pn ∧ v = .int .i64 j ∧ Below w.heap.size w wr ∧ SlOf En.cs 5 wr A4 pn (endsF ps ls) ∧ Has wr w2.heap.size 3 cur ∧ cur.size = pn
    ∧ ∀ i, i < j → cur[i]? = some (.int .i64 (((endsF ps ls).getD i ⟨0, 0, 0, 0, 0⟩).w + xs.getD i 0))) (fun v _ => pn - (intOf v).toNat)
  case atStart => exact ⟨0, mc, by omega, rfl, HB4.out, HSl.out, Z4.out, HSZ.out, fun j hj => by omega⟩
  case round =>
    obtain ⟨j, cur, hj, rfl, hB, hSl, hZ, hS, hC⟩ := hrel
    have HB := Lib.hid hB; have HZ := Lib.hid hZ; have HSj := Lib.hid hSl; have HS2 := Lib.hid hS; have HCu := Lib.hid hC
    clear hB hZ hS hC hSl
    by_cases hjn : j < pn
    · have hel : j < (endsF ps ls).length := by rw [HEl.out]; exact hjn
      have hxl : j < xs.length := by rw [HXl.out]; exact hjn
      obtain ⟨b, o, he⟩ := HSj.out.addr (by omega)
      obtain ⟨b2, o2, he2⟩ := HA.out.addr (by omega)
      have hx := List.getElem?_eq_getElem hel
      have hy := List.getElem?_eq_getElem hxl
      have hxo := HOw.out _ (List.getElem_mem hel)
      have hyo := HXb.out _ (List.getElem_mem hxl)
      obtain ⟨x, hxx⟩ : ∃ x, x = (endsF ps ls)[j] := ⟨_, rfl⟩
      obtain ⟨y, hyy⟩ : ∃ y, y = xs[j] := ⟨_, rfl⟩
      rw [← hxx] at hx hxo
      rw [← hyy] at hy hyo
      have HGx := Lib.hid (show (endsF ps ls).getD j ⟨0, 0, 0, 0, 0⟩ = x by simp [List.getD_eq_getElem?_getD, hx])
      have HGy := Lib.hid (show xs.getD j 0 = y by simp [List.getD_eq_getElem?_getD, hy])
      have hbf := HFr.out b o he
      have hbn : b ≠ w2.heap.size := by omega
      subst he; subst he2
      obtain ⟨x0, x1, x2, x3, x4⟩ := x
      have hR := Lib.hid (show wr.rangeAt b (o + j * 5) [.int .i64 x0, .int .i64 x1, .int .i64 x2, .int .i64 x3, .int .i64 x4] from HSj.out.range En.cs_len hx)
      have CY := Lib.hid fun (w' : World) (hb : Below w.heap.size w w') => (show w'.cell? ⟨b2, o2 + j, none⟩ = some (.int .i64 y) from by have := (HA.out.keep hb).range inC_len hy 0 _ rfl; simpa using this)
      have X8 := Lib.hid (Has.new wr 46 #[.int .i64 x0, .int .i64 x1, .int .i64 x2, .int .i64 x3, .int .i64 x4])
      have BX := Lib.hid (newB (Below.refl wr.heap.size wr) (.cells #[.int .i64 x0, .int .i64 x1, .int .i64 x2, .int .i64 x3, .int .i64 x4] 46))
      have HNx := Lib.hid (cur_next (F := fun i => ((endsF ps ls).getD i ⟨0, 0, 0, 0, 0⟩).w + xs.getD i 0) HS2.out hjn HCu.out)
      simp only at hxo
      obtain ⟨o0, o1⟩ := hxo; obtain ⟨y0, y1⟩ := hyo
      clear hx hxx hy hyy
      go_wp2_with (refine wpList_load_mid rfl 46 _ rfl b (o + j * 5) rfl _ _ hR.out Tryz.underlying46 rfl (by kernel_rfl) ?_)
      have B6 := Lib.hid (nextB HB.out BX.out); have HZ6 := Lib.hid (HZ.out.after BX.out); have HS6 := Lib.hid (HSj.out.keep BX.out)
      generalize wr.alloc (.cells #[.int .i64 x0, .int .i64 x1, .int .i64 x2, .int .i64 x3, .int .i64 x4] 46) = W1 at *
      refine wp_free 10 (by kernel_rfl) (by kernel_rfl) (by kernel_rfl) (by decide) ?_
      intro K hK
      iterate 8 (apply Obl.val (by decide) (by kernel_rfl); (intro w' hb; have := (X8.out.after hb).cell; have := CY.out w' (nextB B6.out hb); go_simp; rfl))
      apply Obl.val (v := .int .i64 (x3 + y)) (by decide) (by kernel_rfl)
      · intro w' hb; go_simp; rw [IntKind.wrap_i64]; omega
      apply Obl.val (by decide) (by kernel_rfl)
      · intro w' hb; go_simp; rfl
      apply Obl.nil
      apply hK
      intro w5 hb
      simp only [Act.put, List.setIfInBounds_toArray, List.set_cons_zero, List.set_cons_succ, List.drop_succ_cons, List.drop_zero]
      clear hK K
      have HB7 := Lib.hid (nextB B6.out hb); have HZ7 := Lib.hid (HZ6.out.after hb); have HS7 := Lib.hid (HS6.out.keep hb)
      clear hb
      have cz := HZ7.out.cell
      have fz := HZ7.out.frozen
      have lz := HZ7.out.lt
      have hcj : cur[j]? = some (cur[j]'(by rw [HS2.out]; exact hjn)) := Array.getElem?_eq_getElem _
      go_wp2
      go_roundw
      case rel => exact ⟨j + 1, cur.setIfInBounds j (.int .i64 (((endsF ps ls).getD j ⟨0, 0, 0, 0, 0⟩).w + xs.getD j 0)), by omega, by go_num, setB HB7.out (by simpa using hw2) _, HS7.out.far hbn _, by rw [HGx.out, HGy.out]; simpa using HZ7.out.set j _, by simp [HS2.out], HNx.out⟩
      case measure => simp [intOf]; omega
    · have hjn' : j = pn := by omega
      subst hjn'
      have HFl := Lib.hid (cur_flat (F := fun i => ((endsF ps ls).getD i ⟨0, 0, 0, 0, 0⟩).w + xs.getD i 0) HS2.out HCu.out)
      have HE := Lib.hid (show nextL ps ls xs = (List.range j).map (fun i => ((endsF ps ls).getD i ⟨0, 0, 0, 0, 0⟩).w + xs.getD i 0) by unfold nextL; rw [HPl.out])
      go_wp2
      exact bodyPost_ret (results_tmp2 rfl _ _ _) rfl ⟨.slice (some ⟨w2.heap.size, 0, none⟩) j j, rfl, Own.of_has (n := j) (xs := nextL ps ls xs) eI_ok HZ.out hw2 (by rw [HE.out]; simp) (by rw [HS2.out]; exact (Nat.mul_one j).symm) (by rw [HE.out]; exact HFl.out) (by unfold maxLen; omega), HB.out⟩
end Go.Proofs
