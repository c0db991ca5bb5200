/-
  Contracts of Fits and Run, of the specification's Truth, Fits, Run and SameAll, and of the law's kept hold where table, man, dive and truth are as defined.
-/
import Derived.Test.YtahochgbkhpefaaGreatDoorP9
import Derived.Test.YtahochgbkhpefaaGreatDoorP12
import Derived.Test.YtahochgbkhpefaaGreatDoorP15
import Derived.Shelf.Bits.Mul64
import Derived.Test.YtahochgbkhpefaaGreatDoorProg
import Derived.Deep.RegionLaw
import Derived.Laws.CopyOwn
import Derived.Test.YtahochgbkhpefaaGreatDoorP10
namespace Go.Proofs
open Go.RowKit Go.Shelf Gas
theorem Lists.form2 {w : World} {base : Nat} {v : Value} {m : Nat} {xss : List (List Pr)} (h : Lists w base v m xss) : ∃ A c, v = .slice A xss.length c := by
  obtain ⟨cells, h1, _⟩ := h.ex
  rcases h1.2 with ⟨rfl, h0⟩ | ⟨g, cap, cur, rfl, _⟩
  · exact ⟨none, 0, by rw [h0]⟩
  · exact ⟨_, _, rfl⟩
theorem Lists.at2 {w : World} {base : Nat} {A : Option Addr} {n c : Nat} {m : Nat} {xss : List (List Pr)} (h : Lists w base (.slice A n c) m xss) {k : Nat} {xs : List Pr} (hx : xss[k]? = some xs) (hn : xss.length = n) : ∃ g D, A = some ⟨g, 0, none⟩ ∧ w.cell? ⟨g, k, none⟩ = some (.slice (some ⟨D, 0, none⟩) m m) ∧ SlOf prC 2 w (some ⟨D, 0, none⟩) m xs := by
  obtain ⟨cells, h1, h2⟩ := h.ex
  have hk := (List.getElem?_eq_some_iff.1 hx).1
  obtain ⟨D, e1, e2⟩ := h2 k xs hx
  rcases h1.2 with ⟨_, h0⟩ | ⟨g, cap, cur, e, _⟩
  · omega
  · cases e
    exact ⟨g, D, rfl, (h1.cellAt k (by omega)).trans e1, e2.sl prC_len⟩
end Go.Proofs
namespace Go.Proofs
open Go.RowKit Gas

/-- What is held by each body, and whether the limits were kept, at each moment of a dive. -/
def atF (ps rs : List Pr) (dive : List St) (a : FS) : Nat → FS
  | 0 => a
  | i + 1 => (stayH (atF ps rs dive a i).1 (dive.getD i st0), enterB ps rs (atF ps rs dive a i).1 (dive.getD i st0).dl (atF ps rs dive a i).2)
theorem atF_cons (ps rs : List Pr) (s : St) (l : List St) (a : FS) : ∀ i, atF ps rs (s :: l) a (i + 1) = atF ps rs l (stayH a.1 s, enterB ps rs a.1 s.dl a.2) i
  | 0 => rfl
  | i + 1 => by
    show (stayH (atF ps rs (s :: l) a (i + 1)).1 (l.getD i st0), enterB ps rs (atF ps rs (s :: l) a (i + 1)).1 (l.getD i st0).dl (atF ps rs (s :: l) a (i + 1)).2) = _
    rw [atF_cons ps rs s l a i]; rfl
theorem folS_at (ps rs : List Pr) : ∀ (l : List St) (a : FS), folS ps rs a l = atF ps rs l a l.length
  | [], a => rfl
  | s :: l, a => by
    show folS ps rs _ l = atF ps rs (s :: l) a (l.length + 1)
    rw [folS_at ps rs l, atF_cons]
theorem knownL_at (ps rs : List Pr) (pn : Nat) : ∀ (l : List St) (a : FS) (i : Nat), i < l.length → (knownL ps rs pn a l)[i]? = some (spansOf rs (atF ps rs l a i).1 pn)
  | [], a, i, h => by simp at h
  | s :: l, a, 0, h => rfl
  | s :: l, a, i + 1, h => by
    show (knownL ps rs pn _ l)[i]? = _
    rw [knownL_at ps rs pn l _ i (by simpa using h), atF_cons]
theorem knownL_len (ps rs : List Pr) (pn : Nat) : ∀ (l : List St) (a : FS), (knownL ps rs pn a l).length = l.length
  | [], _ => rfl
  | s :: l, a => by
    show (knownL ps rs pn _ l).length + 1 = _
    rw [knownL_len ps rs pn l]; rfl
theorem atF_snoc (ps rs : List Pr) (dive : List St) (s : St) (a : FS) : ∀ i, i ≤ dive.length → atF ps rs (dive ++ [s]) a i = atF ps rs dive a i
  | 0, _ => rfl
  | i + 1, h => by
    have e : (dive ++ [s]).getD i st0 = dive.getD i st0 := by
      simp only [List.getD_eq_getElem?_getD]; rw [List.getElem?_append_left (by omega)]
    unfold atF
    rw [atF_snoc ps rs dive s a i (by omega), e]
theorem atF_kept (ps rs : List Pr) (dive : List St) (a : FS) : ∀ n, (atF ps rs dive a n).2 = true → ∀ i, i < n → ∀ p, p < ps.length → exceedsB ps rs (atF ps rs dive a i).1 p (dive.getD i st0).dl = false
  | 0, _, i, hi => by omega
  | n + 1, h, i, hi => by
    obtain ⟨h1, h2⟩ := (enterB_iff _ _ _ _ _).1 (show enterB ps rs (atF ps rs dive a n).1 (dive.getD n st0).dl (atF ps rs dive a n).2 = true from h)
    rcases Nat.lt_succ_iff_lt_or_eq.1 hi with hi | rfl
    · exact atF_kept ps rs dive a n h1 i hi
    · exact h2
/-- What is held in truth, by each compartment at each moment. -/
def heldT (xs ds ms : List Int) : Nat → Nat → Int
  | 0, _ => 1000
  | i + 1, k => loadF (heldT xs ds ms i k) (xs.getD k 0) (ds.getD i 0) (ms.getD i 0).toNat
structure FitP (rs : List Pr) (dive : List St) (xs ds ms : List Int) : Prop where
  rate : ∀ k, k < rs.length → (rs.getD k (0, 0)).1 ≤ xs.getD k 0 ∧ xs.getD k 0 ≤ (rs.getD k (0, 0)).2
  depth : ∀ i, i < dive.length → (dive.getD i st0).dl ≤ ds.getD i 0 ∧ ds.getD i 0 ≤ (dive.getD i st0).dh
  time : ∀ i, i < dive.length → (dive.getD i st0).ml ≤ ms.getD i 0 ∧ ms.getD i 0 ≤ (dive.getD i st0).mh
theorem allF_le (lo hi r dl dh : Int) (n : Nat) : ∀ k j : Nat, j ≤ k → (allF lo hi r dl dh n k).1 ≤ loadF lo r dl (n + j) ∧ loadF hi r dh (n + j) ≤ (allF lo hi r dl dh n k).2
  | 0, j, h => by
    have : j = 0 := by omega
    subst this; exact ⟨Int.le_refl _, Int.le_refl _⟩
  | k + 1, j, h => by
    have e1 : (allF lo hi r dl dh n (k + 1)).1 = min (allF lo hi r dl dh n k).1 (loadF lo r dl (n + k + 1)) := rfl
    have e2 : (allF lo hi r dl dh n (k + 1)).2 = max (allF lo hi r dl dh n k).2 (loadF hi r dh (n + k + 1)) := rfl
    rcases Nat.lt_succ_iff_lt_or_eq.1 (Nat.lt_succ_of_le h) with hj | rfl
    · have := allF_le lo hi r dl dh n k j (by omega)
      omega
    · rw [e1, e2, show n + (k + 1) = n + k + 1 by omega]; omega
theorem aftP_in {s : St} {r d m x : Int} {v : Pr} (hr : 0 ≤ r ∧ r ≤ 1000) (h0 : 0 ≤ s.ml) (hd : s.dl ≤ d ∧ d ≤ s.dh) (hm : s.ml ≤ m ∧ m ≤ s.mh) (hx : v.1 ≤ x ∧ x ≤ v.2) : (aftP s r v).1 ≤ loadF x r d m.toNat ∧ loadF x r d m.toNat ≤ (aftP s r v).2 := by
  have a := allF_le v.1 v.2 r s.dl s.dh s.ml.toNat (s.mh - s.ml).toNat (m - s.ml).toNat (by omega)
  rw [show s.ml.toNat + (m - s.ml).toNat = m.toNat by omega] at a
  have b := loadF_mono hr hx.1 hd.1 m.toNat
  have c := loadF_mono hr hx.2 hd.2 m.toNat
  unfold aftP
  omega
theorem held_in {ps rs : List Pr} {dive : List St} {xs ds ms : List Int} {kp : Bool} (hf : FitP rs dive xs ds ms) (hr : ∀ k, k < rs.length → 0 ≤ (rs.getD k (0, 0)).1 ∧ (rs.getD k (0, 0)).2 ≤ 1000) (hm : ∀ i, i < dive.length → 0 ≤ (dive.getD i st0).ml) :
    ∀ i, i ≤ dive.length → ∀ k, k < rs.length → ((atF ps rs dive (h0, kp) i).1 k (xs.getD k 0)).1 ≤ heldT xs ds ms i k ∧ heldT xs ds ms i k ≤ ((atF ps rs dive (h0, kp) i).1 k (xs.getD k 0)).2
  | 0, _, k, hk => by simp [atF, h0, heldT]
  | i + 1, hi, k, hk => by
    have ih := held_in (ps := ps) (kp := kp) hf hr hm i (by omega) k hk
    have h1 := hf.rate k hk
    have h2 := hr k hk
    exact aftP_in (s := dive.getD i st0) ⟨by omega, by omega⟩ (hm i (by omega)) (hf.depth i (by omega)) (hf.time i (by omega)) ih
theorem minOf_le (f : Int → Int) (lo : Int) (n : Nat) (x : Int) (h1 : lo ≤ x) (h2 : x ≤ lo + n) : minOf f lo (n + 1) ≤ f x := by
  have e : ∀ (n j : Nat), j < n → minOf f lo n ≤ f (lo + j) := by
    intro n
    induction n with
    | zero => intro j hj; omega
    | succ n ih =>
      intro j hj
      rcases Nat.lt_succ_iff_lt_or_eq.1 hj with h | rfl
      · have := ih j h; simp only [minOf]; omega
      · simp only [minOf]; omega
  have := e (n + 1) (x - lo).toNat (by omega)
  rwa [show lo + ((x - lo).toNat : Int) = x by omega] at this
theorem le_maxOf (f : Int → Int) (lo : Int) (n : Nat) (x : Int) (h1 : lo ≤ x) (h2 : x ≤ lo + n) : f x ≤ maxOf f lo (n + 1) := by
  have e : ∀ (n j : Nat), j < n → f (lo + j) ≤ maxOf f lo n := by
    intro n
    induction n with
    | zero => intro j hj; omega
    | succ n ih =>
      intro j hj
      rcases Nat.lt_succ_iff_lt_or_eq.1 hj with h | rfl
      · have := ih j h; simp only [maxOf]; omega
      · simp only [maxOf]; omega
  have := e (n + 1) (x - lo).toNat (by omega)
  rwa [show lo + ((x - lo).toNat : Int) = x by omega] at this
theorem least_le {rs : List Pr} (h : Nat → Int → Pr) {k : Nat} {x : Int} (hx : (rs.getD k (0, 0)).1 ≤ x ∧ x ≤ (rs.getD k (0, 0)).2) : leastF rs h k ≤ (h k x).1 ∧ (h k x).2 ≤ greatF rs h k := by
  unfold leastF greatF
  obtain ⟨n, e⟩ : ∃ n, ratesN (rs.getD k (0, 0)).1 (rs.getD k (0, 0)).2 = n + 1 := ⟨ratesN (rs.getD k (0, 0)).1 (rs.getD k (0, 0)).2 - 1, by unfold ratesN; omega⟩
  rw [e]
  have : x ≤ (rs.getD k (0, 0)).1 + n := by unfold ratesN at e; omega
  exact ⟨minOf_le (fun x => (h k x).1) _ n x hx.1 this, le_maxOf (fun x => (h k x).2) _ n x hx.1 this⟩
/-- What is held lies between the bounds. -/
theorem held_spans {ps rs : List Pr} {dive : List St} {xs ds ms : List Int} {kp : Bool} (hf : FitP rs dive xs ds ms) (hr : ∀ k, k < rs.length → 0 ≤ (rs.getD k (0, 0)).1 ∧ (rs.getD k (0, 0)).2 ≤ 1000) (hm : ∀ i, i < dive.length → 0 ≤ (dive.getD i st0).ml)
    {i k : Nat} (hi : i ≤ dive.length) (hk : k < rs.length) : leastF rs (atF ps rs dive (h0, kp) i).1 k ≤ heldT xs ds ms i k ∧ heldT xs ds ms i k ≤ greatF rs (atF ps rs dive (h0, kp) i).1 k := by
  have a := held_in (ps := ps) (kp := kp) hf hr hm i hi k hk
  have b := least_le (rs := rs) (atF ps rs dive (h0, kp) i).1 (hf.rate k hk)
  omega
/-- What surely keeps the limits does so in truth. -/
theorem held_kept {ps rs : List Pr} {dive : List St} {xs ds ms : List Int} (hf : FitP rs dive xs ds ms) (hr : ∀ k, k < rs.length → 0 ≤ (rs.getD k (0, 0)).1 ∧ (rs.getD k (0, 0)).2 ≤ 1000) (hm : ∀ i, i < dive.length → 0 ≤ (dive.getD i st0).ml)
    (hpl : ps.length = rs.length) (hps : ∀ k, k < ps.length → 0 ≤ (ps.getD k (0, 0)).2) (hs : enterB ps rs (folS ps rs (h0, true) dive).1 0 (folS ps rs (h0, true) dive).2 = true)
    {i k : Nat} (hi : i ≤ dive.length) (hk : k < rs.length) : heldT xs ds ms i k ≤ (ps.getD k (0, 0)).1 + (ps.getD k (0, 0)).2 * (if i < dive.length then ds.getD i 0 else 0) := by
  rw [folS_at] at hs
  obtain ⟨h1, h2⟩ := (enterB_iff _ _ _ _ _).1 hs
  have a := (held_spans (ps := ps) (kp := true) hf hr hm hi hk).2
  by_cases hn : i < dive.length
  · rw [if_pos hn]
    have b := (exceedsB_false _ _ _ _ _).1 (atF_kept ps rs dive (h0, true) _ h1 i hn k (by omega))
    have c := Int.mul_le_mul_of_nonneg_left (hf.depth i hn).1 (hps k (by omega))
    omega
  · rw [if_neg hn]
    have e : i = dive.length := by omega
    subst e
    have b := (exceedsB_false _ _ _ _ _).1 (h2 k (by omega))
    omega
end Go.Proofs
namespace Go.Proofs
open Go.RowKit Go.Shelf Gas
attribute [local go_sem ↓] Go.wp_at_zero Go.wp_at_succ

/-- A truth in memory. -/
structure Tr where
  (xA dA mA : Option Addr) (xn xc dn dc mn mc : Nat) (xs ds ms : List Int)
def Tr.val (x : Tr) : Value := .agg #[.slice x.xA x.xn x.xc, .slice x.dA x.dn x.dc, .slice x.mA x.mn x.mc]
structure Tr.In (x : Tr) (w : World) : Prop where
  xs : SlOf inC 1 w x.xA x.xn x.xs
  ds : SlOf inC 1 w x.dA x.dn x.ds
  ms : SlOf inC 1 w x.mA x.mn x.ms
theorem Tr.In.keep {x : Tr} {w w' : World} (h : x.In w) (hb : Below w.heap.size w w') : x.In w' := ⟨h.xs.keep hb, h.ds.keep hb, h.ms.keep hb⟩
def briefB (x : Tr) : Bool := decide (x.xn ≤ 6 ∧ x.dn ≤ 7 ∧ x.mn ≤ 7)
def shapedB (t : Tm) (n : Nat) (x : Tr) : Bool := decide (x.xn = t.pn ∧ x.dn = n ∧ x.mn = n)

set_option maxHeartbeats 1000000 in
theorem brief_c (x : Tr) (w : World) : Calls Tryz.prog 27 #[x.val] w fun e w' => e = .returned (.bool (briefB x)) ∧ Below w.heap.size w w' := by
  obtain ⟨xA, dA, mA, xn, xc, dn, dc, mn, mc, xs, ds, ms⟩ := x
  simp only [Tr.val]
  have B0 := Lib.hid (newB (Below.refl w.heap.size w) (.cells #[.slice xA xn xc, .slice dA dn dc, .slice mA mn mc] 56))
  by_cases h1 : xn ≤ 6
  · by_cases h2 : dn ≤ 7
    · by_cases h3 : mn ≤ 7
      all_goals
        have E := Lib.hid (show briefB ⟨xA, dA, mA, xn, xc, dn, dc, mn, mc, xs, ds, ms⟩ = decide (mn ≤ 7) by simp [briefB, h1, h2])
        go_enter Tryz.func27, Tryz.ntmps27
        go_wp2
        exact bodyPost_ret (results_tmp rfl _ _ _) rfl ⟨by rw [E.out]; simp; try omega, B0.out⟩
    · have E := Lib.hid (show briefB ⟨xA, dA, mA, xn, xc, dn, dc, mn, mc, xs, ds, ms⟩ = false by simp [briefB, h2])
      go_enter Tryz.func27, Tryz.ntmps27
      go_wp2
      exact bodyPost_ret (results_tmp rfl _ _ _) rfl ⟨by rw [E.out]; rfl, B0.out⟩
  · have E := Lib.hid (show briefB ⟨xA, dA, mA, xn, xc, dn, dc, mn, mc, xs, ds, ms⟩ = false by simp [briefB, h1])
    go_enter Tryz.func27, Tryz.ntmps27
    go_wp2
    exact bodyPost_ret (results_tmp rfl _ _ _) rfl ⟨by rw [E.out]; rfl, B0.out⟩

set_option maxHeartbeats 1000000 in
theorem shaped_c (t : Tm) (A : Option Addr) (n c : Nat) (x : Tr) (w : World) : Calls Tryz.prog 77 #[t.tab, .slice A n c, x.val] w fun e w' => e = .returned (.bool (shapedB t n x)) ∧ Below w.heap.size w w' := by
  obtain ⟨xA, dA, mA, xn, xc, dn, dc, mn, mc, xs, ds, ms⟩ := x
  obtain ⟨pA, sA, rA, pn, pc, sn, sc, rn, rc, ps, ss, rs⟩ := t
  simp only [Tr.val, Tm.tab]
  have B0 := Lib.hid (newB (newB (Below.refl w.heap.size w) (.cells #[.slice pA pn pc, .slice sA sn sc] 50)) (.cells #[.slice xA xn xc, .slice dA dn dc, .slice mA mn mc] 56))
  by_cases h1 : xn = pn
  · by_cases h2 : dn = n
    · by_cases h3 : mn = n
      · have E := Lib.hid (show shapedB ⟨pA, sA, rA, pn, pc, sn, sc, rn, rc, ps, ss, rs⟩ n ⟨xA, dA, mA, xn, xc, dn, dc, mn, mc, xs, ds, ms⟩ = true by simp [shapedB, h1, h2, h3])
        subst h1; subst h2; subst h3
        go_enter Tryz.func77, Tryz.ntmps77
        go_wp2
        exact bodyPost_ret (results_tmp rfl _ _ _) rfl ⟨by rw [E.out]; try simp, B0.out⟩
      · have E := Lib.hid (show shapedB ⟨pA, sA, rA, pn, pc, sn, sc, rn, rc, ps, ss, rs⟩ n ⟨xA, dA, mA, xn, xc, dn, dc, mn, mc, xs, ds, ms⟩ = false by simp [shapedB, h3])
        subst h1; subst h2
        go_enter Tryz.func77, Tryz.ntmps77
        go_wp2
        exact bodyPost_ret (results_tmp rfl _ _ _) rfl ⟨by rw [E.out]; simp; omega, B0.out⟩
    · have E := Lib.hid (show shapedB ⟨pA, sA, rA, pn, pc, sn, sc, rn, rc, ps, ss, rs⟩ n ⟨xA, dA, mA, xn, xc, dn, dc, mn, mc, xs, ds, ms⟩ = false by simp [shapedB, h2])
      subst h1
      go_enter Tryz.func77, Tryz.ntmps77
      go_wp2
      exact bodyPost_ret (results_tmp rfl _ _ _) rfl ⟨by rw [E.out]; rfl, B0.out⟩
  · have E := Lib.hid (show shapedB ⟨pA, sA, rA, pn, pc, sn, sc, rn, rc, ps, ss, rs⟩ n ⟨xA, dA, mA, xn, xc, dn, dc, mn, mc, xs, ds, ms⟩ = false by simp [shapedB, h1])
    go_enter Tryz.func77, Tryz.ntmps77
    go_wp2
    exact bodyPost_ret (results_tmp rfl _ _ _) rfl ⟨by rw [E.out]; rfl, B0.out⟩

set_option maxHeartbeats 1000000 in
theorem truth_c (t : Tm) (A : Option Addr) (n c : Nat) (x : Tr) (w : World) : Calls Tryz.prog 33 #[t.tab, .slice A n c, x.val] w fun e w' => e = .returned (.bool (shapedB t n x)) ∧ Below w.heap.size w w' := by
  obtain ⟨xA, dA, mA, xn, xc, dn, dc, mn, mc, xs, ds, ms⟩ := x
  obtain ⟨pA, sA, rA, pn, pc, sn, sc, rn, rc, ps, ss, rs⟩ := t
  simp only [Tr.val, Tm.tab]
  have B0 := Lib.hid (newB (newB (Below.refl w.heap.size w) (.cells #[.slice pA pn pc, .slice sA sn sc] 50)) (.cells #[.slice xA xn xc, .slice dA dn dc, .slice mA mn mc] 56))
  by_cases h1 : xn = pn
  · by_cases h2 : dn = n
    · by_cases h3 : mn = n
      · have E := Lib.hid (show shapedB ⟨pA, sA, rA, pn, pc, sn, sc, rn, rc, ps, ss, rs⟩ n ⟨xA, dA, mA, xn, xc, dn, dc, mn, mc, xs, ds, ms⟩ = true by simp [shapedB, h1, h2, h3])
        subst h1; subst h2; subst h3
        go_enter Tryz.func33, Tryz.ntmps33
        go_wp2
        exact bodyPost_ret (results_tmp rfl _ _ _) rfl ⟨by rw [E.out]; try simp, B0.out⟩
      · have E := Lib.hid (show shapedB ⟨pA, sA, rA, pn, pc, sn, sc, rn, rc, ps, ss, rs⟩ n ⟨xA, dA, mA, xn, xc, dn, dc, mn, mc, xs, ds, ms⟩ = false by simp [shapedB, h3])
        subst h1; subst h2
        go_enter Tryz.func33, Tryz.ntmps33
        go_wp2
        exact bodyPost_ret (results_tmp rfl _ _ _) rfl ⟨by rw [E.out]; simp; omega, B0.out⟩
    · have E := Lib.hid (show shapedB ⟨pA, sA, rA, pn, pc, sn, sc, rn, rc, ps, ss, rs⟩ n ⟨xA, dA, mA, xn, xc, dn, dc, mn, mc, xs, ds, ms⟩ = false by simp [shapedB, h2])
      subst h1
      go_enter Tryz.func33, Tryz.ntmps33
      go_wp2
      exact bodyPost_ret (results_tmp rfl _ _ _) rfl ⟨by rw [E.out]; rfl, B0.out⟩
  · have E := Lib.hid (show shapedB ⟨pA, sA, rA, pn, pc, sn, sc, rn, rc, ps, ss, rs⟩ n ⟨xA, dA, mA, xn, xc, dn, dc, mn, mc, xs, ds, ms⟩ = false by simp [shapedB, h1])
    go_enter Tryz.func33, Tryz.ntmps33
    go_wp2
    exact bodyPost_ret (results_tmp rfl _ _ _) rfl ⟨by rw [E.out]; rfl, B0.out⟩

def fitR : List Pr → List Int → Bool
  | p :: rs, x :: xs => inB x p.1 p.2 && fitR rs xs
  | _, _ => true
def fitS : List St → List Int → List Int → Bool
  | s :: l, d :: ds, m :: ms => (inB d s.dl s.dh && inB m s.ml s.mh) && fitS l ds ms
  | _, _, _ => true
theorem fitR_drop (rs : List Pr) (xs : List Int) (k : Nat) (h : k < rs.length) (h' : k < xs.length) : fitR (rs.drop k) (xs.drop k) = (inB xs[k] rs[k].1 rs[k].2 && fitR (rs.drop (k + 1)) (xs.drop (k + 1))) := by
  rw [List.drop_eq_getElem_cons h, List.drop_eq_getElem_cons h']; rfl
theorem fitS_drop (l : List St) (ds ms : List Int) (k : Nat) (h : k < l.length) (h1 : k < ds.length) (h2 : k < ms.length) : fitS (l.drop k) (ds.drop k) (ms.drop k) = ((inB ds[k] l[k].dl l[k].dh && inB ms[k] l[k].ml l[k].mh) && fitS (l.drop (k + 1)) (ds.drop (k + 1)) (ms.drop (k + 1))) := by
  rw [List.drop_eq_getElem_cons h, List.drop_eq_getElem_cons h1, List.drop_eq_getElem_cons h2]; rfl
theorem fitR_at : ∀ (rs : List Pr) (xs : List Int), fitR rs xs = true → xs.length = rs.length → ∀ k, k < rs.length → (rs.getD k (0, 0)).1 ≤ xs.getD k 0 ∧ xs.getD k 0 ≤ (rs.getD k (0, 0)).2
  | [], _, _, _, k, hk => by simp at hk
  | p :: rs, [], _, hl, k, hk => by simp at hl
  | p :: rs, x :: xs, h, hl, k, hk => by
    simp only [fitR, Bool.and_eq_true, inB, decide_eq_true_eq] at h
    cases k with
    | zero => exact h.1
    | succ k => exact fitR_at rs xs h.2 (by simpa using hl) k (by simpa using hk)
theorem fitS_at : ∀ (l : List St) (ds ms : List Int), fitS l ds ms = true → ds.length = l.length → ms.length = l.length → ∀ i, i < l.length → ((l.getD i st0).dl ≤ ds.getD i 0 ∧ ds.getD i 0 ≤ (l.getD i st0).dh) ∧ ((l.getD i st0).ml ≤ ms.getD i 0 ∧ ms.getD i 0 ≤ (l.getD i st0).mh)
  | [], _, _, _, _, _, i, hi => by simp at hi
  | s :: l, [], _, _, hl, _, i, hi => by simp at hl
  | s :: l, _ :: _, [], _, _, hl, i, hi => by simp at hl
  | s :: l, d :: ds, m :: ms, h, h1, h2, i, hi => by
    simp only [fitS, Bool.and_eq_true, inB, decide_eq_true_eq] at h
    cases i with
    | zero => exact h.1
    | succ i => exact fitS_at l ds ms h.2 (by simpa using h1) (by simpa using h2) i (by simpa using hi)
def fitsB (rs : List Pr) (dive : List St) (x : Tr) : Bool := fitR rs x.xs && fitS dive x.ds x.ms
theorem fitsB_fit {rs : List Pr} {dive : List St} {x : Tr} (h : fitsB rs dive x = true) (h1 : x.xs.length = rs.length) (h2 : x.ds.length = dive.length) (h3 : x.ms.length = dive.length) : FitP rs dive x.xs x.ds x.ms := by
  simp only [fitsB, Bool.and_eq_true] at h
  exact ⟨fitR_at _ _ h.1 h1, fun i hi => (fitS_at _ _ _ h.2 h2 h3 i hi).1, fun i hi => (fitS_at _ _ _ h.2 h2 h3 i hi).2⟩

set_option maxHeartbeats 2000000 in
set_option maxRecDepth 50000 in
theorem fits_c (rA A : Option Addr) (rn rc n c : Nat) (rs : List Pr) (dive : List St) (x : Tr) (hrn : rn ≤ 1000000) (hn : n ≤ 1000000) (e1 : x.xn = rn) (e2 : x.dn = n) (e3 : x.mn = n) (w : World) (hr : SlOf prC 2 w rA rn rs) (hd : SlOf St.cs 4 w A n dive) (hx : x.In w) :
    Calls Tryz.prog 78 #[.agg #[.slice rA rn rc], .slice A n c, x.val] w fun e w' => e = .returned (.bool (fitsB rs dive x)) ∧ Below w.heap.size w w' := by
  obtain ⟨xA, dA, mA, xn, xc, dn, dc, mn, mc, xs, ds, ms⟩ := x
  simp only at e1 e2 e3
  subst e1; subst e2; subst e3
  obtain ⟨hxs, hds, hms⟩ := hx
  have l1 := hr.1; have l2 := hxs.1; have l3 := hds.1; have l4 := hms.1; have l5 := hd.1
  simp only at l1 l2 l3 l4 l5
  have HR := Lib.hid hr; have HX := Lib.hid hxs; have HD := Lib.hid hds; have HM := Lib.hid hms; have HV := Lib.hid hd
  simp only at HX HD HM
  simp only [Tr.val]
  have B0 := Lib.hid (newB (newB (Below.refl w.heap.size w) (.cells #[.slice rA xn rc] 53)) (.cells #[.slice xA xn xc, .slice dA mn dc, .slice mA mn mc] 56))
  have R0 := Lib.hid ((Has.new w 53 #[.slice rA xn rc]).alloc (.cells #[.slice xA xn xc, .slice dA mn dc, .slice mA mn mc] 56))
  have X0 := Lib.hid (Has.new' (w.alloc (.cells #[.slice rA xn rc] 53)) 56 #[.slice xA xn xc, .slice dA mn dc, .slice mA mn mc] (g := w.heap.size + 1) (by simp))
  have HG : fitsB rs dive ⟨xA, dA, mA, xn, xc, mn, dc, mn, mc, xs, ds, ms⟩ = (fitR rs xs && fitS dive ds ms) := rfl
  rw [HG]
  have H1 := Lib.hid fun (n lo hi : Int) (W : World) => within_c n lo hi W
  clear hr hd hxs hds hms HG
  go_enter Tryz.func78, Tryz.ntmps78
  go_wp2
  generalize (w.alloc (.cells #[.slice rA xn rc] 53)).alloc (.cells #[.slice xA xn xc, .slice dA mn dc, .slice mA mn mc] 56) = W0 at *
  go_loopw [14] (fun v wr => ∃ k : Nat, k ≤ xn ∧ v = .int .i64 k ∧ Below w.heap.size w wr ∧ Has wr w.heap.size 53 #[.slice rA xn rc] ∧ Has wr (w.heap.size + 1) 56 #[.slice xA xn xc, .slice dA mn dc, .slice mA mn mc] ∧ fitR rs xs = fitR (rs.drop k) (xs.drop k)) (fun v _ => xn - (intOf v).toNat)
  case atStart => exact ⟨0, by omega, rfl, B0.out, R0.out, X0.out, by simp⟩
  case round =>
    obtain ⟨k, hk, rfl, hB, hR0, hX0, hE⟩ := hrel
    have HB := Lib.hid hB; have HR0 := Lib.hid hR0; have HX0 := Lib.hid hX0; have HE := Lib.hid hE
    clear hB hR0 hX0 hE
    have cx := HX0.out.cell
    have cr := HR0.out.cell
    by_cases hkn : k < xn
    · have hk1 : k < rs.length := by omega
      have hk2 : k < xs.length := by omega
      have HDr := Lib.hid (fitR_drop rs xs k hk1 hk2)
      obtain ⟨b1, o1, h1⟩ := HR.out.addr (by omega)
      obtain ⟨b2, o2, h2⟩ := HX.out.addr (by omega)
      have hx1 := List.getElem?_eq_getElem hk1
      have hx2 := List.getElem?_eq_getElem hk2
      obtain ⟨p, hp⟩ : ∃ p, p = rs[k] := ⟨_, rfl⟩
      obtain ⟨q, hq⟩ : ∃ q, q = xs[k] := ⟨_, rfl⟩
      rw [← hp] at hx1 HDr; rw [← hq] at hx2 HDr
      obtain ⟨p0, p1⟩ := p
      simp only at HDr
      subst h1; subst h2
      have CR := Lib.hid (show wr.rangeAt b1 (o1 + k * 2) [.int .i64 p0, .int .i64 p1] from (HR.out.keep HB.out).range prC_len hx1)
      have CX := Lib.hid fun (W : World) (hb : Below wr.heap.size wr W) => (show W.cell? ⟨b2, o2 + k, none⟩ = some (.int .i64 q) by simpa using ((HX.out.keep (nextB HB.out hb)).range inC_len hx2) 0 _ rfl)
      have CP := Lib.hid fun (W : World) (hb : Below wr.heap.size wr W) => (show W.cell? ⟨b1, o1 + k * 2, none⟩ = some (.int .i64 p0) ∧ W.cell? ⟨b1, o1 + k * 2 + 1, none⟩ = some (.int .i64 p1) from ⟨by simpa using ((HR.out.keep (nextB HB.out hb)).range prC_len hx1) 0 _ rfl, ((HR.out.keep (nextB HB.out hb)).range prC_len hx1) 1 _ rfl⟩)
      clear hx1 hx2 hp hq
      have NB := Lib.hid (box_has (W := wr) #[.int .i64 0, .int .i64 0] #[.int .i64 p0, .int .i64 p1] 24)
      have bb := box_below (W := wr) #[.int .i64 0, .int .i64 0] #[.int .i64 p0, .int .i64 p1] 24
      have HB1 := Lib.hid (nextB HB.out bb); have HR1 := Lib.hid (HR0.out.after bb); have HX1 := Lib.hid (HX0.out.after bb)
      have CX1 := Lib.hid fun (W : World) (hb : Below ((wr.alloc (.cells #[.int .i64 0, .int .i64 0] 24)).setRow wr.heap.size #[.int .i64 p0, .int .i64 p1]).heap.size ((wr.alloc (.cells #[.int .i64 0, .int .i64 0] 24)).setRow wr.heap.size #[.int .i64 p0, .int .i64 p1]) W) => CX.out W (nextB bb hb)
      clear bb
      go_wp2_with (first
        | (refine wpList_load_mid rfl 24 _ rfl b1 (o1 + k * 2) rfl _ _ CR.out Tryz.underlying24 rfl (by kernel_rfl) ?_)
        | (refine wpList_store_all rfl 24 _ _ rfl wr.heap.size rfl _ rfl 24 _ (Has.new wr 24 _) (by kernel_rfl) rfl (by simp [Value.oneCell']) ?_))
      generalize (wr.alloc (.cells #[.int .i64 0, .int .i64 0] 24)).setRow wr.heap.size #[.int .i64 p0, .int .i64 p1] = W1 at *
      refine wp_free 11 (by kernel_rfl) (by kernel_rfl) (by kernel_rfl) (by decide) ?_
      intro K hK
      iterate 9 (apply Obl.val (by decide) (by kernel_rfl); (intro w' hb; have := (HX1.out.after hb).cell; have := (NB.out.after hb).cell; have := CX1.out w' hb; go_simp; rfl))
      (apply Obl.call (f := 67) (by decide) (by kernel_rfl); (intro w' hb; go_simp; exact rfl); (intro w' hb; exact same_calls (H1.out q p0 p1 w')))
      (apply Obl.val (by decide) (by kernel_rfl); (intro w' hb; go_simp; rfl))
      apply Obl.nil
      apply hK
      intro w5 hb
      simp only [Act.put, List.setIfInBounds_toArray, List.set_cons_zero, List.set_cons_succ, List.drop_succ_cons, List.drop_zero]
      clear hK K
      have HB5 := Lib.hid (nextB HB1.out hb); have HR5 := Lib.hid (HR1.out.after hb); have HX5 := Lib.hid (HX1.out.after hb)
      clear hb
      cases hin : inB q p0 p1
      · have HN := Lib.hid (show fitR rs xs = false by rw [HE.out, HDr.out, hin]; rfl)
        go_wp2
        exact bodyPost_ret (results_tmp rfl _ _ _) rfl ⟨by rw [HN.out]; rfl, HB5.out⟩
      · have HN := Lib.hid (show fitR rs xs = fitR (rs.drop (k + 1)) (xs.drop (k + 1)) by rw [HE.out, HDr.out, hin]; rfl)
        clear hin
        go_wp2
        go_roundw
        case rel => exact ⟨k + 1, by omega, by go_num, HB5.out, HR5.out, HX5.out, HN.out⟩
        case measure => simp [intOf]; omega
    · have hke : xn = k := by omega
      subst hke
      have HE1 := Lib.hid (show fitR rs xs = true by rw [HE.out, List.drop_eq_nil_of_le (by omega)]; rfl)
      have HF0 := HE1
      go_wp2
      go_loopw [33] (fun v wq => ∃ k : Nat, k ≤ mn ∧ v = .int .i64 k ∧ Below w.heap.size w wq ∧ Has wq (w.heap.size + 1) 56 #[.slice xA xn xc, .slice dA mn dc, .slice mA mn mc] ∧ fitS dive ds ms = fitS (dive.drop k) (ds.drop k) (ms.drop k)) (fun v _ => mn - (intOf v).toNat)
      case atStart => exact ⟨0, by omega, rfl, HB.out, HX0.out, by simp⟩
      case round =>
        clear HE HE1 HB HX0 HR0 cx cr
        obtain ⟨k, hk, rfl, hB, hX0, hE⟩ := hrel
        have HB := Lib.hid hB; have HX0 := Lib.hid hX0; have HE := Lib.hid hE
        clear hB hX0 hE
        have cx := HX0.out.cell
        by_cases hkn : k < mn
        · have hk1 : k < dive.length := by omega
          have hk2 : k < ds.length := by omega
          have hk3 : k < ms.length := by omega
          have HDr := Lib.hid (fitS_drop dive ds ms k hk1 hk2 hk3)
          obtain ⟨b1, o1, h1⟩ := HV.out.addr (by omega)
          obtain ⟨b2, o2, h2⟩ := HD.out.addr (by omega)
          obtain ⟨b3, o3, h3⟩ := HM.out.addr (by omega)
          have hx1 := List.getElem?_eq_getElem hk1
          have hx2 := List.getElem?_eq_getElem hk2
          have hx3 := List.getElem?_eq_getElem hk3
          obtain ⟨p, hp⟩ : ∃ p, p = dive[k] := ⟨_, rfl⟩
          obtain ⟨q, hq⟩ : ∃ q, q = ds[k] := ⟨_, rfl⟩
          obtain ⟨r, hr⟩ : ∃ r, r = ms[k] := ⟨_, rfl⟩
          rw [← hp] at hx1 HDr; rw [← hq] at hx2 HDr; rw [← hr] at hx3 HDr
          obtain ⟨dl, dh, ml, mh⟩ := p
          simp only at HDr
          subst h1; subst h2; subst h3
          have CR := Lib.hid (show wr.rangeAt b1 (o1 + k * 4) [.int .i64 dl, .int .i64 dh, .int .i64 ml, .int .i64 mh] from (HV.out.keep HB.out).range St.cs_len hx1)
          have CX := Lib.hid fun (W : World) (hb : Below wr.heap.size wr W) => (show W.cell? ⟨b2, o2 + k, none⟩ = some (.int .i64 q) ∧ W.cell? ⟨b3, o3 + k, none⟩ = some (.int .i64 r) from ⟨by simpa using ((HD.out.keep (nextB HB.out hb)).range inC_len hx2) 0 _ rfl, by simpa using ((HM.out.keep (nextB HB.out hb)).range inC_len hx3) 0 _ rfl⟩)
          have CP := Lib.hid fun (W : World) (hb : Below wr.heap.size wr W) => (show W.cell? ⟨b1, o1 + k * 4, none⟩ = some (.int .i64 dl) ∧ W.cell? ⟨b1, o1 + k * 4 + 1, none⟩ = some (.int .i64 dh) ∧ W.cell? ⟨b1, o1 + k * 4 + 2, none⟩ = some (.int .i64 ml) ∧ W.cell? ⟨b1, o1 + k * 4 + 2 + 1, none⟩ = some (.int .i64 mh) from ⟨by simpa using ((HV.out.keep (nextB HB.out hb)).range St.cs_len hx1) 0 _ rfl, ((HV.out.keep (nextB HB.out hb)).range St.cs_len hx1) 1 _ rfl, ((HV.out.keep (nextB HB.out hb)).range St.cs_len hx1) 2 _ rfl, ((HV.out.keep (nextB HB.out hb)).range St.cs_len hx1) 3 _ rfl⟩)
          clear hx1 hx2 hx3 hp hq hr
          have NB := Lib.hid (box_has (W := wr) #[.int .i64 0, .int .i64 0, .int .i64 0, .int .i64 0] #[.int .i64 dl, .int .i64 dh, .int .i64 ml, .int .i64 mh] 128)
          have bb := box_below (W := wr) #[.int .i64 0, .int .i64 0, .int .i64 0, .int .i64 0] #[.int .i64 dl, .int .i64 dh, .int .i64 ml, .int .i64 mh] 128
          have HB1 := Lib.hid (nextB HB.out bb); have HX1 := Lib.hid (HX0.out.after bb)
          have CX1 := Lib.hid fun (W : World) (hb : Below ((wr.alloc (.cells #[.int .i64 0, .int .i64 0, .int .i64 0, .int .i64 0] 128)).setRow wr.heap.size #[.int .i64 dl, .int .i64 dh, .int .i64 ml, .int .i64 mh]).heap.size ((wr.alloc (.cells #[.int .i64 0, .int .i64 0, .int .i64 0, .int .i64 0] 128)).setRow wr.heap.size #[.int .i64 dl, .int .i64 dh, .int .i64 ml, .int .i64 mh]) W) => CX.out W (nextB bb hb)
          clear bb
          go_wp2_with (first
            | (refine wpList_load_mid rfl 128 _ rfl b1 (o1 + k * 4) rfl _ _ CR.out Tryz.underlying128 rfl (by kernel_rfl) ?_)
            | (refine wpList_store_all rfl 128 _ _ rfl wr.heap.size rfl _ rfl 128 _ (Has.new wr 128 _) (by kernel_rfl) rfl (by simp [Value.oneCell']) ?_))
          generalize (wr.alloc (.cells #[.int .i64 0, .int .i64 0, .int .i64 0, .int .i64 0] 128)).setRow wr.heap.size #[.int .i64 dl, .int .i64 dh, .int .i64 ml, .int .i64 mh] = W1 at *
          cases hin : inB q dl dh
          · have HI := Lib.hid hin
            have HF1 := Lib.hid fun (W : World) => H1.out q dl dh W
            rw [hin] at HF1
            clear hin
            refine wp_free 28 (by kernel_rfl) (by kernel_rfl) (by kernel_rfl) (by decide) ?_
            intro K hK
            iterate 11 (apply Obl.val (by decide) (by kernel_rfl); (intro w' hb; have := (HX1.out.after hb).cell; have := (NB.out.after hb).cell; obtain ⟨e1, e2⟩ := CX1.out w' hb; go_simp; rfl))
            (apply Obl.call (f := 67) (by decide) (by kernel_rfl); (intro w' hb; go_simp; exact rfl); (intro w' hb; exact same_calls (HF1.out w')))
            iterate 2 (apply Obl.val (by decide) (by kernel_rfl); (intro w' hb; go_simp; rfl))
            iterate 13 (apply Obl.skip (by decide) (by kernel_rfl))
            iterate 1 (apply Obl.val (by decide) (by kernel_rfl); (intro w' hb; go_simp; rfl))
            apply Obl.nil
            apply hK
            intro w5 hb
            simp only [Act.put, List.setIfInBounds_toArray, List.set_cons_zero, List.set_cons_succ, List.drop_succ_cons, List.drop_zero]
            clear hK K
            have HB5 := Lib.hid (nextB HB1.out hb); have HX5 := Lib.hid (HX1.out.after hb)
            clear hb
            have HN := Lib.hid (show fitS dive ds ms = false by rw [HE.out, HDr.out, HI.out]; simp)
            go_wp2
            exact bodyPost_ret (results_tmp rfl _ _ _) rfl ⟨by rw [HF0.out, HN.out]; rfl, HB5.out⟩
          · have HI := Lib.hid hin
            have HF1 := Lib.hid fun (W : World) => H1.out q dl dh W
            rw [hin] at HF1
            clear hin
            cases hjn : inB r ml mh
            all_goals
              have HJ := Lib.hid hjn
              have HF2 := Lib.hid fun (W : World) => H1.out r ml mh W
              rw [hjn] at HF2
              clear hjn
              refine wp_free 28 (by kernel_rfl) (by kernel_rfl) (by kernel_rfl) (by decide) ?_
              intro K hK
              iterate 11 (apply Obl.val (by decide) (by kernel_rfl); (intro w' hb; have := (HX1.out.after hb).cell; have := (NB.out.after hb).cell; obtain ⟨e1, e2⟩ := CX1.out w' hb; go_simp; rfl))
              (apply Obl.call (f := 67) (by decide) (by kernel_rfl); (intro w' hb; go_simp; exact rfl); (intro w' hb; exact same_calls (HF1.out w')))
              iterate 2 (apply Obl.val (by decide) (by kernel_rfl); (intro w' hb; go_simp; rfl))
              iterate 11 (apply Obl.val (by decide) (by kernel_rfl); (intro w' hb; have := (HX1.out.after hb).cell; have := (NB.out.after hb).cell; obtain ⟨e1, e2⟩ := CX1.out w' hb; go_simp; rfl))
              (apply Obl.call (f := 67) (by decide) (by kernel_rfl); (intro w' hb; go_simp; exact rfl); (intro w' hb; exact same_calls (HF2.out w')))
              iterate 2 (apply Obl.val (by decide) (by kernel_rfl); (intro w' hb; go_simp; rfl))
              apply Obl.nil
              apply hK
              intro w5 hb
              simp only [Act.put, List.setIfInBounds_toArray, List.set_cons_zero, List.set_cons_succ, List.drop_succ_cons, List.drop_zero]
              clear hK K
              have HB5 := Lib.hid (nextB HB1.out hb); have HX5 := Lib.hid (HX1.out.after hb)
              clear hb
            · have HN := Lib.hid (show fitS dive ds ms = false by rw [HE.out, HDr.out, HI.out, HJ.out]; rfl)
              go_wp2
              exact bodyPost_ret (results_tmp rfl _ _ _) rfl ⟨by rw [HF0.out, HN.out]; rfl, HB5.out⟩
            · have HN := Lib.hid (show fitS dive ds ms = fitS (dive.drop (k + 1)) (ds.drop (k + 1)) (ms.drop (k + 1)) by rw [HE.out, HDr.out, HI.out, HJ.out]; rfl)
              go_wp2
              go_roundw
              case rel => exact ⟨k + 1, by omega, by go_num, HB5.out, HX5.out, HN.out⟩
              case measure => simp [intOf]; omega
        · have hke : mn = k := by omega
          subst hke
          have HE2 := Lib.hid (show fitS dive ds ms = true by rw [HE.out, List.drop_eq_nil_of_le (by omega)]; rfl)
          go_wp2
          exact bodyPost_ret (results_tmp rfl _ _ _) rfl ⟨by rw [HF0.out, HE2.out]; rfl, HB.out⟩

set_option maxHeartbeats 2000000 in
set_option maxRecDepth 50000 in
theorem refFits_c (rA A : Option Addr) (rn rc n c : Nat) (rs : List Pr) (dive : List St) (x : Tr) (hrn : rn ≤ 1000000) (hn : n ≤ 1000000) (e1 : x.xn = rn) (e2 : x.dn = n) (e3 : x.mn = n) (w : World) (hr : SlOf prC 2 w rA rn rs) (hd : SlOf St.cs 4 w A n dive) (hx : x.In w) :
    Calls Tryz.prog 34 #[.agg #[.slice rA rn rc], .slice A n c, x.val] w fun e w' => e = .returned (.bool (fitsB rs dive x)) ∧ Below w.heap.size w w' := by
  obtain ⟨xA, dA, mA, xn, xc, dn, dc, mn, mc, xs, ds, ms⟩ := x
  simp only at e1 e2 e3
  subst e1; subst e2; subst e3
  obtain ⟨hxs, hds, hms⟩ := hx
  have l1 := hr.1; have l2 := hxs.1; have l3 := hds.1; have l4 := hms.1; have l5 := hd.1
  simp only at l1 l2 l3 l4 l5
  have HR := Lib.hid hr; have HX := Lib.hid hxs; have HD := Lib.hid hds; have HM := Lib.hid hms; have HV := Lib.hid hd
  simp only at HX HD HM
  simp only [Tr.val]
  have B0 := Lib.hid (newB (newB (Below.refl w.heap.size w) (.cells #[.slice rA xn rc] 53)) (.cells #[.slice xA xn xc, .slice dA mn dc, .slice mA mn mc] 56))
  have R0 := Lib.hid ((Has.new w 53 #[.slice rA xn rc]).alloc (.cells #[.slice xA xn xc, .slice dA mn dc, .slice mA mn mc] 56))
  have X0 := Lib.hid (Has.new' (w.alloc (.cells #[.slice rA xn rc] 53)) 56 #[.slice xA xn xc, .slice dA mn dc, .slice mA mn mc] (g := w.heap.size + 1) (by simp))
  have HG : fitsB rs dive ⟨xA, dA, mA, xn, xc, mn, dc, mn, mc, xs, ds, ms⟩ = (fitR rs xs && fitS dive ds ms) := rfl
  rw [HG]
  have H1 := Lib.hid fun (n lo hi : Int) (W : World) => in_c n lo hi W
  clear hr hd hxs hds hms HG
  go_enter Tryz.func34, Tryz.ntmps34
  go_wp2
  generalize (w.alloc (.cells #[.slice rA xn rc] 53)).alloc (.cells #[.slice xA xn xc, .slice dA mn dc, .slice mA mn mc] 56) = W0 at *
  go_loopw [7] (fun v wr => ∃ k : Nat, k ≤ xn ∧ v = .int .i64 k ∧ Below w.heap.size w wr ∧ Has wr w.heap.size 53 #[.slice rA xn rc] ∧ Has wr (w.heap.size + 1) 56 #[.slice xA xn xc, .slice dA mn dc, .slice mA mn mc] ∧ fitR rs xs = fitR (rs.drop k) (xs.drop k)) (fun v _ => xn - (intOf v).toNat)
  case atStart => exact ⟨0, by omega, rfl, B0.out, R0.out, X0.out, by simp⟩
  case round =>
    obtain ⟨k, hk, rfl, hB, hR0, hX0, hE⟩ := hrel
    have HB := Lib.hid hB; have HR0 := Lib.hid hR0; have HX0 := Lib.hid hX0; have HE := Lib.hid hE
    clear hB hR0 hX0 hE
    have cx := HX0.out.cell
    have cr := HR0.out.cell
    by_cases hkn : k < xn
    · have hk1 : k < rs.length := by omega
      have hk2 : k < xs.length := by omega
      have HDr := Lib.hid (fitR_drop rs xs k hk1 hk2)
      obtain ⟨b1, o1, h1⟩ := HR.out.addr (by omega)
      obtain ⟨b2, o2, h2⟩ := HX.out.addr (by omega)
      have hx1 := List.getElem?_eq_getElem hk1
      have hx2 := List.getElem?_eq_getElem hk2
      obtain ⟨p, hp⟩ : ∃ p, p = rs[k] := ⟨_, rfl⟩
      obtain ⟨q, hq⟩ : ∃ q, q = xs[k] := ⟨_, rfl⟩
      rw [← hp] at hx1 HDr; rw [← hq] at hx2 HDr
      obtain ⟨p0, p1⟩ := p
      simp only at HDr
      subst h1; subst h2
      have CR := Lib.hid (show wr.rangeAt b1 (o1 + k * 2) [.int .i64 p0, .int .i64 p1] from (HR.out.keep HB.out).range prC_len hx1)
      have CX := Lib.hid fun (W : World) (hb : Below wr.heap.size wr W) => (show W.cell? ⟨b2, o2 + k, none⟩ = some (.int .i64 q) by simpa using ((HX.out.keep (nextB HB.out hb)).range inC_len hx2) 0 _ rfl)
      have CP := Lib.hid fun (W : World) (hb : Below wr.heap.size wr W) => (show W.cell? ⟨b1, o1 + k * 2, none⟩ = some (.int .i64 p0) ∧ W.cell? ⟨b1, o1 + k * 2 + 1, none⟩ = some (.int .i64 p1) from ⟨by simpa using ((HR.out.keep (nextB HB.out hb)).range prC_len hx1) 0 _ rfl, ((HR.out.keep (nextB HB.out hb)).range prC_len hx1) 1 _ rfl⟩)
      clear hx1 hx2 hp hq
      have HB1 := HB; have HR1 := HR0; have HX1 := HX0
      go_wp2
      refine wp_free 19 (by kernel_rfl) (by kernel_rfl) (by kernel_rfl) (by decide) ?_
      intro K hK
      iterate 17 (apply Obl.val (by decide) (by kernel_rfl); (intro w' hb; have := (HX1.out.after hb).cell; have := (HR1.out.after hb).cell; have := CX.out w' hb; obtain ⟨e1, e2⟩ := CP.out w' hb; go_simp; rfl))
      (apply Obl.call (f := 72) (by decide) (by kernel_rfl); (intro w' hb; go_simp; exact rfl); (intro w' hb; exact same_calls (H1.out q p0 p1 w')))
      (apply Obl.val (by decide) (by kernel_rfl); (intro w' hb; go_simp; rfl))
      apply Obl.nil
      apply hK
      intro w5 hb
      simp only [Act.put, List.setIfInBounds_toArray, List.set_cons_zero, List.set_cons_succ, List.drop_succ_cons, List.drop_zero]
      clear hK K
      have HB5 := Lib.hid (nextB HB1.out hb); have HR5 := Lib.hid (HR1.out.after hb); have HX5 := Lib.hid (HX1.out.after hb)
      clear hb
      cases hin : inB q p0 p1
      · have HN := Lib.hid (show fitR rs xs = false by rw [HE.out, HDr.out, hin]; rfl)
        go_wp2
        exact bodyPost_ret (results_tmp rfl _ _ _) rfl ⟨by rw [HN.out]; rfl, HB5.out⟩
      · have HN := Lib.hid (show fitR rs xs = fitR (rs.drop (k + 1)) (xs.drop (k + 1)) by rw [HE.out, HDr.out, hin]; rfl)
        clear hin
        go_wp2
        go_roundw
        case rel => exact ⟨k + 1, by omega, by go_num, HB5.out, HR5.out, HX5.out, HN.out⟩
        case measure => simp [intOf]; omega
    · have hke : xn = k := by omega
      subst hke
      have HE1 := Lib.hid (show fitR rs xs = true by rw [HE.out, List.drop_eq_nil_of_le (by omega)]; rfl)
      have HF0 := HE1
      go_wp2
      go_loopw [8] (fun v wq => ∃ k : Nat, k ≤ mn ∧ v = .int .i64 k ∧ Below w.heap.size w wq ∧ Has wq (w.heap.size + 1) 56 #[.slice xA xn xc, .slice dA mn dc, .slice mA mn mc] ∧ fitS dive ds ms = fitS (dive.drop k) (ds.drop k) (ms.drop k)) (fun v _ => mn - (intOf v).toNat)
      case atStart => exact ⟨0, by omega, rfl, HB.out, HX0.out, by simp⟩
      case round =>
        clear HE HE1 HB HX0 HR0 cx cr
        obtain ⟨k, hk, rfl, hB, hX0, hE⟩ := hrel
        have HB := Lib.hid hB; have HX0 := Lib.hid hX0; have HE := Lib.hid hE
        clear hB hX0 hE
        have cx := HX0.out.cell
        by_cases hkn : k < mn
        · have hk1 : k < dive.length := by omega
          have hk2 : k < ds.length := by omega
          have hk3 : k < ms.length := by omega
          have HDr := Lib.hid (fitS_drop dive ds ms k hk1 hk2 hk3)
          obtain ⟨b1, o1, h1⟩ := HV.out.addr (by omega)
          obtain ⟨b2, o2, h2⟩ := HD.out.addr (by omega)
          obtain ⟨b3, o3, h3⟩ := HM.out.addr (by omega)
          have hx1 := List.getElem?_eq_getElem hk1
          have hx2 := List.getElem?_eq_getElem hk2
          have hx3 := List.getElem?_eq_getElem hk3
          obtain ⟨p, hp⟩ : ∃ p, p = dive[k] := ⟨_, rfl⟩
          obtain ⟨q, hq⟩ : ∃ q, q = ds[k] := ⟨_, rfl⟩
          obtain ⟨r, hr⟩ : ∃ r, r = ms[k] := ⟨_, rfl⟩
          rw [← hp] at hx1 HDr; rw [← hq] at hx2 HDr; rw [← hr] at hx3 HDr
          obtain ⟨dl, dh, ml, mh⟩ := p
          simp only at HDr
          subst h1; subst h2; subst h3
          have CR := Lib.hid (show wr.rangeAt b1 (o1 + k * 4) [.int .i64 dl, .int .i64 dh, .int .i64 ml, .int .i64 mh] from (HV.out.keep HB.out).range St.cs_len hx1)
          have CX := Lib.hid fun (W : World) (hb : Below wr.heap.size wr W) => (show W.cell? ⟨b2, o2 + k, none⟩ = some (.int .i64 q) ∧ W.cell? ⟨b3, o3 + k, none⟩ = some (.int .i64 r) from ⟨by simpa using ((HD.out.keep (nextB HB.out hb)).range inC_len hx2) 0 _ rfl, by simpa using ((HM.out.keep (nextB HB.out hb)).range inC_len hx3) 0 _ rfl⟩)
          have CP := Lib.hid fun (W : World) (hb : Below wr.heap.size wr W) => (show W.cell? ⟨b1, o1 + k * 4, none⟩ = some (.int .i64 dl) ∧ W.cell? ⟨b1, o1 + k * 4 + 1, none⟩ = some (.int .i64 dh) ∧ W.cell? ⟨b1, o1 + k * 4 + 2, none⟩ = some (.int .i64 ml) ∧ W.cell? ⟨b1, o1 + k * 4 + 2 + 1, none⟩ = some (.int .i64 mh) from ⟨by simpa using ((HV.out.keep (nextB HB.out hb)).range St.cs_len hx1) 0 _ rfl, ((HV.out.keep (nextB HB.out hb)).range St.cs_len hx1) 1 _ rfl, ((HV.out.keep (nextB HB.out hb)).range St.cs_len hx1) 2 _ rfl, ((HV.out.keep (nextB HB.out hb)).range St.cs_len hx1) 3 _ rfl⟩)
          clear hx1 hx2 hx3 hp hq hr
          have HB1 := HB; have HX1 := HX0
          go_wp2
          cases hin : inB q dl dh
          · have HI := Lib.hid hin
            have HF1 := Lib.hid fun (W : World) => H1.out q dl dh W
            rw [hin] at HF1
            clear hin
            refine wp_free 40 (by kernel_rfl) (by kernel_rfl) (by kernel_rfl) (by decide) ?_
            intro K hK
            iterate 17 (apply Obl.val (by decide) (by kernel_rfl); (intro w' hb; have := (HX1.out.after hb).cell; obtain ⟨e1, e2⟩ := CX.out w' hb; obtain ⟨f1, f2, f3, f4⟩ := CP.out w' hb; go_simp; rfl))
            (apply Obl.call (f := 72) (by decide) (by kernel_rfl); (intro w' hb; go_simp; exact rfl); (intro w' hb; exact same_calls (HF1.out w')))
            iterate 2 (apply Obl.val (by decide) (by kernel_rfl); (intro w' hb; go_simp; rfl))
            iterate 19 (apply Obl.skip (by decide) (by kernel_rfl))
            iterate 1 (apply Obl.val (by decide) (by kernel_rfl); (intro w' hb; go_simp; rfl))
            apply Obl.nil
            apply hK
            intro w5 hb
            simp only [Act.put, List.setIfInBounds_toArray, List.set_cons_zero, List.set_cons_succ, List.drop_succ_cons, List.drop_zero]
            clear hK K
            have HB5 := Lib.hid (nextB HB1.out hb); have HX5 := Lib.hid (HX1.out.after hb)
            clear hb
            have HN := Lib.hid (show fitS dive ds ms = false by rw [HE.out, HDr.out, HI.out]; simp)
            go_wp2
            exact bodyPost_ret (results_tmp rfl _ _ _) rfl ⟨by rw [HF0.out, HN.out]; rfl, HB5.out⟩
          · have HI := Lib.hid hin
            have HF1 := Lib.hid fun (W : World) => H1.out q dl dh W
            rw [hin] at HF1
            clear hin
            cases hjn : inB r ml mh
            all_goals
              have HJ := Lib.hid hjn
              have HF2 := Lib.hid fun (W : World) => H1.out r ml mh W
              rw [hjn] at HF2
              clear hjn
              refine wp_free 40 (by kernel_rfl) (by kernel_rfl) (by kernel_rfl) (by decide) ?_
              intro K hK
              iterate 17 (apply Obl.val (by decide) (by kernel_rfl); (intro w' hb; have := (HX1.out.after hb).cell; obtain ⟨e1, e2⟩ := CX.out w' hb; obtain ⟨f1, f2, f3, f4⟩ := CP.out w' hb; go_simp; rfl))
              (apply Obl.call (f := 72) (by decide) (by kernel_rfl); (intro w' hb; go_simp; exact rfl); (intro w' hb; exact same_calls (HF1.out w')))
              iterate 2 (apply Obl.val (by decide) (by kernel_rfl); (intro w' hb; go_simp; rfl))
              iterate 17 (apply Obl.val (by decide) (by kernel_rfl); (intro w' hb; have := (HX1.out.after hb).cell; obtain ⟨e1, e2⟩ := CX.out w' hb; obtain ⟨f1, f2, f3, f4⟩ := CP.out w' hb; go_simp; rfl))
              (apply Obl.call (f := 72) (by decide) (by kernel_rfl); (intro w' hb; go_simp; exact rfl); (intro w' hb; exact same_calls (HF2.out w')))
              iterate 2 (apply Obl.val (by decide) (by kernel_rfl); (intro w' hb; go_simp; rfl))
              apply Obl.nil
              apply hK
              intro w5 hb
              simp only [Act.put, List.setIfInBounds_toArray, List.set_cons_zero, List.set_cons_succ, List.drop_succ_cons, List.drop_zero]
              clear hK K
              have HB5 := Lib.hid (nextB HB1.out hb); have HX5 := Lib.hid (HX1.out.after hb)
              clear hb
            · have HN := Lib.hid (show fitS dive ds ms = false by rw [HE.out, HDr.out, HI.out, HJ.out]; rfl)
              go_wp2
              exact bodyPost_ret (results_tmp rfl _ _ _) rfl ⟨by rw [HF0.out, HN.out]; rfl, HB5.out⟩
            · have HN := Lib.hid (show fitS dive ds ms = fitS (dive.drop (k + 1)) (ds.drop (k + 1)) (ms.drop (k + 1)) by rw [HE.out, HDr.out, HI.out, HJ.out]; rfl)
              go_wp2
              go_roundw
              case rel => exact ⟨k + 1, by omega, by go_num, HB5.out, HX5.out, HN.out⟩
              case measure => simp [intOf]; omega
        · have hke : mn = k := by omega
          subst hke
          have HE2 := Lib.hid (show fitS dive ds ms = true by rw [HE.out, List.drop_eq_nil_of_le (by omega)]; rfl)
          go_wp2
          exact bodyPost_ret (results_tmp rfl _ _ _) rfl ⟨by rw [HF0.out, HE2.out]; rfl, HB.out⟩
end Go.Proofs
namespace Go.Proofs
open Go.RowKit Go.Shelf Gas
attribute [local go_sem ↓] Go.wp_at_zero Go.wp_at_succ

/-- The boxes of a table, a man and a truth. -/
structure Bt (w : World) (t : Tm) (x : Tr) (W : World) : Prop where
  below : Below w.heap.size w W
  tab : Has W w.heap.size 50 #[.slice t.pA t.pn t.pc, .slice t.sA t.sn t.sc]
  man : Has W (w.heap.size + 1) 53 #[.slice t.rA t.rn t.rc]
  tr : Has W (w.heap.size + 1 + 1) 56 #[.slice x.xA x.xn x.xc, .slice x.dA x.dn x.dc, .slice x.mA x.mn x.mc]
theorem Bt.keep {w W W' : World} {t : Tm} {x : Tr} (h : Bt w t x W) (hb : Below W.heap.size W W') : Bt w t x W' := ⟨nextB h.below hb, h.tab.after hb, h.man.after hb, h.tr.after hb⟩
theorem Bt.start (w : World) (t : Tm) (x : Tr) : Bt w t x (((w.alloc (.cells #[.slice t.pA t.pn t.pc, .slice t.sA t.sn t.sc] 50)).alloc (.cells #[.slice t.rA t.rn t.rc] 53)).alloc (.cells #[.slice x.xA x.xn x.xc, .slice x.dA x.dn x.dc, .slice x.mA x.mn x.mc] 56)) :=
  ⟨newB (newB (newB (Below.refl _ _) _) _) _, ((Has.new w 50 _).alloc _).alloc _, (Has.new' _ 53 _ (by simp)).alloc _, Has.new' _ 56 _ (by simp)⟩
theorem shaped_len {t : Tm} {n : Nat} {x : Tr} (h : shapedB t n x = true) : x.xn = t.pn ∧ x.dn = n ∧ x.mn = n := by
  simpa only [shapedB, decide_eq_true_eq] using h
def fitsF (t : Tm) (n : Nat) (dive : List St) (x : Tr) : Bool × Int := if definedB t.ps t.ss t.rs dive 0 && shapedB t n x then (fitsB t.rs dive x, 0) else (false, 2)

set_option maxHeartbeats 2000000 in
set_option maxRecDepth 50000 in
theorem Fits_c (t : Tm) (ht : t.Small) (A : Option Addr) (n c : Nat) (dive : List St) (x : Tr) (hn : n ≤ 100000) (w : World) (hi : t.In w) (hd : SlOf St.cs 4 w A n dive) (hx : x.In w) :
    Calls Tryz.prog 29 #[t.tab, t.man, .slice A n c, x.val] w fun e w' => e = .returned (.tuple #[.bool (fitsF t n dive x).1, .int .i64 (fitsF t n dive x).2]) ∧ Below w.heap.size w w' := by
  have HD := Lib.hid fun (w' : World) (hb : Below w.heap.size w w') => defined_c t ht A n c dive 0 (by omega) (by omega) w' (hi.keep hb) (hd.keep hb)
  have HS := Lib.hid fun (W : World) => shaped_c t A n c x W
  have HF := Lib.hid fun (hm : t.rn = t.pn) (hs : shapedB t n x = true) (W : World) (hb : Below w.heap.size w W) => fits_c t.rA A t.rn t.rc n c t.rs dive x ht.r (by omega) ((shaped_len hs).1.trans hm.symm) (shaped_len hs).2.1 (shaped_len hs).2.2 W (hi.rs.keep hb) (hd.keep hb) (hx.keep hb)
  have HOK := Lib.hid fun h => (defined_ok ht hi (dive := dive) (room := 0) h).1.np
  have E0 := Lib.hid (Bt.start w t x)
  unfold fitsF
  cases hdb : definedB t.ps t.ss t.rs dive 0
  · rw [hdb] at HD
    rw [Bool.false_and, if_neg (by simp)]
    clear hi hd hx HF HOK hdb
    obtain ⟨pA, sA, rA, pn, pc, sn, sc, rn, rc, ps, ss, rs⟩ := t
    obtain ⟨xA, dA, mA, xn, xc, dn, dc, mn, mc, xs, ds, ms⟩ := x
    simp only [Tm.tab, Tm.man, Tr.val] at *
    go_enter Tryz.func29, Tryz.ntmps29
    go_wp2_with (go_at_call 76; refine (HD.out _ E0.out.below).mono ?_; rintro e w1 ⟨rfl, hb1⟩; have EE := Lib.hid (E0.out.keep hb1); clear hb1)
    exact bodyPost_ret (results_tmp2 rfl _ _ _) rfl ⟨rfl, EE.out.below⟩
  · rw [hdb] at HD
    have hnp := HOK.out hdb
    rw [Bool.true_and]
    cases hs : shapedB t n x
    · rw [hs] at HS
      rw [if_neg (by simp)]
      clear hi hd hx HF HOK hdb hs hnp
      obtain ⟨pA, sA, rA, pn, pc, sn, sc, rn, rc, ps, ss, rs⟩ := t
      obtain ⟨xA, dA, mA, xn, xc, dn, dc, mn, mc, xs, ds, ms⟩ := x
      simp only [Tm.tab, Tm.man, Tr.val] at *
      go_enter Tryz.func29, Tryz.ntmps29
      go_wp2_with (first
        | (go_at_call 76; refine (HD.out _ E0.out.below).mono ?_; rintro e w1 ⟨rfl, hb1⟩; have EE := Lib.hid (E0.out.keep hb1); have ct := EE.out.tab.cell; have cx := EE.out.tr.cell; clear hb1)
        | (go_at_call 77; refine (HS.out _).mono ?_; rintro e w2 ⟨rfl, hb2⟩; replace EE := Lib.hid (EE.out.keep hb2); clear hb2))
      exact bodyPost_ret (results_tmp2 rfl _ _ _) rfl ⟨rfl, EE.out.below⟩
    · have HF2 := Lib.hid (HF.out hnp hs)
      rw [hs] at HS
      rw [if_pos rfl]
      clear hi hd hx HF HOK hdb hs hnp
      generalize fitsB t.rs dive x = fb at *
      obtain ⟨pA, sA, rA, pn, pc, sn, sc, rn, rc, ps, ss, rs⟩ := t
      obtain ⟨xA, dA, mA, xn, xc, dn, dc, mn, mc, xs, ds, ms⟩ := x
      simp only [Tm.tab, Tm.man, Tr.val] at *
      go_enter Tryz.func29, Tryz.ntmps29
      go_wp2_with (first
        | (go_at_call 76; refine (HD.out _ E0.out.below).mono ?_; rintro e w1 ⟨rfl, hb1⟩; have EE := Lib.hid (E0.out.keep hb1); have ct := EE.out.tab.cell; have cx := EE.out.tr.cell; clear hb1)
        | (go_at_call 77; refine (HS.out _).mono ?_; rintro e w2 ⟨rfl, hb2⟩; replace EE := Lib.hid (EE.out.keep hb2); replace cx := EE.out.tr.cell; have cm := EE.out.man.cell; clear hb2)
        | (go_at_call 78; refine (HF2.out _ EE.out.below).mono ?_; rintro e w3 ⟨rfl, hb3⟩; replace EE := Lib.hid (EE.out.keep hb3); clear hb3))
      exact bodyPost_ret (results_tmp2 rfl _ _ _) rfl ⟨rfl, EE.out.below⟩
end Go.Proofs
namespace Go.Proofs
open Go.Shelf
def Tryz.lays264_ren : Go.Shelf.Ren := ⟨fun | 264 => 139 | n => n, fun | 53 => 196 | 46 => 163 | n => n, fun | n => n⟩
theorem Tryz.lays264 : Go.Proofs.Lays.n264 Tryz.prog Tryz.lays264_ren := {
  mixed := by kernel_rfl
  f264 := Tryz.func139.trans (congrArg some (by kernel_rfl))
  t46 := Tryz.underlying163
  a46 := Tryz.isAgg163
  z46 := Tryz.sizeOf163
  v46 := Tryz.zeroValue163
  t53 := Tryz.underlying196
  a53 := Tryz.isAgg196
  z53 := Tryz.sizeOf196
  v53 := Tryz.zeroValue196 }
open Go.RowKit Go.Lib in
theorem Tryz.bits_Mul64 (x y : Nat) (hx : x < 18446744073709551616) (hy : y < 18446744073709551616) (w : World) :
    Calls Tryz.prog 139 #[.int .u64 x, .int .u64 y] w fun e w' => e = .returned (.tuple #[.int .u64 ((x * y / 18446744073709551616 : Nat) : Int), .int .u64 ((x * y % 18446744073709551616 : Nat) : Int)]) ∧ w' = w := Any.bits_Mul64 Tryz.lays264 x y hx hy w
def Tryz.lays212_ren : Go.Shelf.Ren := ⟨fun | 212 => 119 | 263 => 138 | 264 => 139 | n => n, fun | 46 => 163 | 51 => 193 | 146 => 194 | 53 => 196 | 148 => 197 | n => n, fun | n => n⟩
theorem Tryz.lays212 : Go.Proofs.Lays.n212 Tryz.prog Tryz.lays212_ren := {
  mixed := by kernel_rfl
  f212 := Tryz.func119.trans (congrArg some (by kernel_rfl))
  f263 := Tryz.func138.trans (congrArg some (by kernel_rfl))
  f264 := Tryz.func139.trans (congrArg some (by kernel_rfl))
  t46 := Tryz.underlying163
  a46 := Tryz.isAgg163
  z46 := Tryz.sizeOf163
  v46 := Tryz.zeroValue163
  t51 := Tryz.underlying193
  a51 := Tryz.isAgg193
  z51 := Tryz.sizeOf193
  v51 := Tryz.zeroValue193
  t53 := Tryz.underlying196
  a53 := Tryz.isAgg196
  z53 := Tryz.sizeOf196
  v53 := Tryz.zeroValue196
  t146 := Tryz.underlying194
  a146 := Tryz.isAgg194
  z146 := Tryz.sizeOf194
  v146 := Tryz.zeroValue194
  t148 := Tryz.underlying197
  a148 := Tryz.isAgg197
  z148 := Tryz.sizeOf197
  v148 := Tryz.zeroValue197 }
open Go.RowKit Go.Lib in
/-- math/bits.Mul: "Mul returns the full-width product of x and y": on a machine of 64 bits: Mul64's. (LAID: no walk: one application.) -/
theorem Tryz.bits_Mul (x y : Nat) (hx : x < 18446744073709551616) (hy : y < 18446744073709551616) (w : World) :
    Calls Tryz.prog 119 #[.int .u64 x, .int .u64 y] w fun e w' => e = .returned (.tuple #[.int .u64 ((x * y / 18446744073709551616 : Nat) : Int), .int .u64 ((x * y % 18446744073709551616 : Nat) : Int)]) ∧ w' = w := Any.bits_Mul Tryz.lays212 x y hx hy w
end Go.Proofs
namespace Go.Proofs
open Go.RowKit Go.Shelf Gas
attribute [local go_sem ↓] Go.wp_at_zero Go.wp_at_succ

theorem addr_add0 (g i : Nat) : (⟨g, 0, none⟩ : Addr).add i = ⟨g, i, none⟩ := by unfold Addr.add; split <;> simp_all
theorem run_eq37 (a : Addr) (n c : Nat) (w : World) : Sem.run Tryz.prog (binOp BinOp.eql 37 (Value.slice (some a) n c) (Value.slice none 0 0)) w = .ok (.bool false) w := by kernel_rfl
set_option maxHeartbeats 1000000 in
set_option maxRecDepth 50000 in
/-- A copy of a list of numbers. -/
theorem clone_c (g : Nat) (n c : Nat) (xs : List Int) (hn : n ≤ 1000) (w : World) (hx : SlOf inC 1 w (some ⟨g, 0, none⟩) n xs) (h0 : 0 < n) :
    Calls Tryz.prog 80 #[.slice (some ⟨g, 0, none⟩) n c] w fun e w' => ∃ v, e = .returned v ∧ w'.ownsRow w.heap.size 3 1 v n (flat inC xs) ∧ Below w.heap.size w w' := by
  have hl := hx.1
  obtain ⟨i, hi, hz, hby, hsz⟩ := info3
  have hg : g < w.heap.size := hx.lt inC_len (by omega) h0
  obtain ⟨b, o, he, hr⟩ := hx.2.2 (by omega)
  cases he
  have HC := Lib.hid fun (j : Nat) (u : Value) (hu : (flat inC xs)[j]? = some u) => hr j u hu
  have HE := Lib.hid (run_eq37 ⟨g, 0, none⟩ n c w)
  have heq := HE.out
  have B0 := Lib.hid (newB (Below.refl w.heap.size w) (.cells #[] 3))
  have O0 := Lib.hid (World.ownsRow_lit (base := w.heap.size) (e := 3) (size := 1) w #[] 0 (Nat.le_refl _) (by unfold maxLen; omega) rfl)
  have HL := Lib.hid (show (flat inC xs).length = n * 1 by rw [flat_len inC_len, hl])
  have H1 := Lib.hid (show ∀ u ∈ flat inC xs, u.oneCell' = true from fun u hu => by
    have : ∀ l : List Int, ∀ u ∈ flat inC l, u.oneCell' = true := by
      intro l
      induction l with
      | nil => intro u hu; cases hu
      | cons x l ih => intro u hu; rcases List.mem_append.1 (show u ∈ inC x ++ flat inC l from hu) with h | h; · simp [inC] at h; subst h; rfl
                       · exact ih u h
    exact this xs u hu)
  clear hx hr
  go_enter Tryz.func80, Tryz.ntmps80
  go_wp2_with (at_builtin; refine wpList_append_own _ rfl _ _ 37 rfl w.heap.size 3 i _ 1 8 (by kernel_rfl) hi hz hsz hby rfl (by omega) _ 0 [] rfl O0.out ⟨g, 0, none⟩ n c (flat inC xs) rfl HL.out (fun j u hu => by
      have hadd : (⟨g, 0, none⟩ : Addr).add j = ⟨g, 0 + j, none⟩ := by unfold Addr.add; split <;> simp_all
      rw [hadd]; exact ccell (newB (Below.refl _ w) _) (HC.out j u hu)) H1.out (by unfold maxLen; omega) (by omega) B0.out.size ?_; intro v' w' e1 e2 _; have HO := Lib.hid e1; have HG := Lib.hid (show Below w.heap.size w w' from B0.out.trans (below_grown e2 (fun r hr => (O0.out.lt r hr).1) B0.out.size)); clear e1 e2)
  exact bodyPost_ret (results_tmp rfl _ _ _) rfl ⟨v', rfl, by simpa using HO.out, HG.out⟩

theorem make37 (n : Nat) (hn : n ≤ 1000000) (w : World) : (Instr.makeSlice 37 (.int .i64 (n : Int)) (.int .i64 (n : Int))).run Tryz.prog w = .ok (.slice (some ⟨w.heap.size, 0, none⟩) n n) (w.alloc (.cells (madeCells #[.int .i64 0] (n * 1)) 3)) := by
  obtain ⟨i, hi, hz, hb, hs⟩ := info3
  have := run_make (P := Tryz.prog) w 37 3 i _ (by kernel_rfl) hi hz .i64 .i64 n n (by omega) (by omega) (by rw [hb]; omega) (by omega)
  simp only [hs, Int.toNat_natCast] at this
  exact this
def rep (k j : Nat) : List Value := List.replicate j (.int .i64 1000) ++ List.replicate (k - j) (.int .i64 0)
theorem rep_len {k j : Nat} (h : j ≤ k) : (rep k j).length = k := by simp [rep]; omega
theorem rep_made : ∀ k : Nat, k ≤ 3 → madeCells #[.int .i64 0] (k * 1) = (rep k 0).toArray
  | 0, _ => by kernel_rfl
  | 1, _ => by kernel_rfl
  | 2, _ => by kernel_rfl
  | 3, _ => by kernel_rfl
  | k + 4, h => by omega
theorem rep_copy {k j c : Nat} (h : j + c ≤ k) : (rep k j).take j ++ (List.replicate c (.int .i64 1000) ++ (rep k j).drop (j + c)) = rep k (j + c) := by
  unfold rep
  rw [List.take_append_of_le_length (by simp), List.take_of_length_le (by simp), List.drop_append, List.drop_of_length_le (by simp)]
  simp only [List.length_replicate, List.drop_replicate, List.nil_append]
  rw [← List.append_assoc, List.replicate_append_replicate, show k - j - (j + c - j) = k - (j + c) by omega]
theorem rep_at {k j i : Nat} (h : i < j) : (rep k j)[i]? = some (.int .i64 1000) := by
  unfold rep
  rw [List.getElem?_append_left (by simpa using h)]
  simp [h]
set_option maxHeartbeats 1000000 in
set_option maxRecDepth 50000 in
/-- A thousand for each compartment. -/
theorem repeat_c (g : Nat) (k : Nat) (h1 : 1 ≤ k) (h3 : k ≤ 3) (w : World) (hg : Has w g 3 #[.int .i64 1000]) :
    Calls Tryz.prog 79 #[.slice (some ⟨g, 0, none⟩) 1 1, .int .i64 k] w fun e w' => e = .returned (.slice (some ⟨w.heap.size, 0, none⟩) k k) ∧ Has w' w.heap.size 3 (rep k k).toArray ∧ Below w.heap.size w w' := by
  have HM := Lib.hid fun (W : World) => (show Calls Tryz.prog 119 #[.int .u64 1, .int .u64 k] W fun e w' => e = .returned (.tuple #[.int .u64 0, .int .u64 k]) ∧ w' = W from by
    have := Tryz.bits_Mul 1 k (by omega) (by omega) W
    rw [show 1 * k / 18446744073709551616 = 0 by omega, show 1 * k % 18446744073709551616 = k by omega] at this
    exact this)
  have hmk := make37 k (by omega) w
  rw [rep_made k h3] at hmk
  have hge : ¬ ((k : Int) < 0) := by omega
  have hgt : ¬ ((k : Int) > 9223372036854775807) := by omega
  have hgl := hg.lt
  have HG := Lib.hid fun (W : World) (hb : Below w.heap.size w W) => hg.after hb
  have CS := Lib.hid (show ∀ (j : Nat) (u : Value), [(.int .i64 1000 : Value)][j]? = some u → (w.alloc (.cells (rep k 0).toArray 3)).cell? ((⟨g, 0, none⟩ : Addr).add j) = some u from fun j u hu => by
    have hadd : (⟨g, 0, none⟩ : Addr).add j = ⟨g, j, none⟩ := by unfold Addr.add; split <;> simp_all
    rw [hadd, (hg.alloc _).cell j]; simpa using hu)
  have HN := Lib.hid (Has.new w 3 (rep k 0).toArray)
  have HC := Lib.hid fun (j c : Nat) (h : j + c ≤ k) => rep_copy h
  have HL := Lib.hid fun (j : Nat) (h : j ≤ k) => rep_len h
  have Z1 := Lib.hid (show Has ((w.alloc (.cells (rep k 0).toArray 3)).setRow w.heap.size ((rep k 0).toArray.toList.take 0 ++ ([(.int .i64 1000 : Value)] ++ (rep k 0).toArray.toList.drop (0 + [(.int .i64 1000 : Value)].length))).toArray) w.heap.size 3 (rep k 1).toArray from by
    have := rep_copy (k := k) (j := 0) (c := 1) (by omega)
    refine ((Has.new w 3 (rep k 0).toArray).setRow _).eq ?_
    exact congrArg List.toArray this)
  have B1 := Lib.hid (rowB (newB (Below.refl w.heap.size w) (.cells (rep k 0).toArray 3)) (Nat.le_refl _) ((rep k 0).toArray.toList.take 0 ++ ([(.int .i64 1000 : Value)] ++ (rep k 0).toArray.toList.drop (0 + [(.int .i64 1000 : Value)].length))).toArray)
  clear hg
  go_enter Tryz.func79, Tryz.ntmps79
  go_wp2_with (first
    | (go_at_call 119; refine (HM.out _).mono ?_; rintro e w1 ⟨rfl, hw⟩; have hw2 := hw.symm; subst hw2)
    | (refine wpList_copy_own rfl _ _ 37 37 rfl 3 Tryz.underlying37 (by kernel_rfl) w.heap.size 0 k k ⟨g, 0, none⟩ 1 1 rfl rfl (rep k 0).toArray 3 HN.out [.int .i64 1000] (by simp [Nat.min_def]; omega) CS.out (by simp [HL.out 0 (by omega)]; omega) (by simp [Value.oneCell']) ?_; generalize (w.alloc (.cells (rep k 0).toArray 3)).setRow w.heap.size ((rep k 0).toArray.toList.take 0 ++ ([(.int .i64 1000 : Value)] ++ (rep k 0).toArray.toList.drop (0 + [(.int .i64 1000 : Value)].length))).toArray = W1 at *))
  clear HN CS hmk
  go_loopw [8] (fun v wr => ∃ j : Nat, 1 ≤ j ∧ j ≤ k ∧ v = .int .i64 j ∧ Below w.heap.size w wr ∧ Has wr w.heap.size 3 (rep k j).toArray) (fun v _ => k - (intOf v).toNat)
  case atStart => exact ⟨1, by omega, by omega, rfl, B1.out, Z1.out⟩
  case round =>
    obtain ⟨j, hj1, hjk, rfl, hB, hZ⟩ := hrel
    have HB := Lib.hid hB; have HZ := Lib.hid hZ
    clear hB hZ B1 Z1
    by_cases hjn : j < k
    · obtain ⟨c, hc⟩ : ∃ c, min j (k - j) = c := ⟨_, rfl⟩
      have hc1 : 1 ≤ c ∧ j + c ≤ k ∧ c ≤ j := by omega
      have HCc := Lib.hid (HC.out j c hc1.2.1)
      have HMc := Lib.hid (show (List.replicate c (.int .i64 1000 : Value)).length = Nat.min j (k - j) by rw [List.length_replicate]; exact hc.symm)
      have HFit := Lib.hid (show j + (List.replicate c (.int .i64 1000 : Value)).length ≤ (rep k j).length by rw [HL.out j hjk, List.length_replicate]; omega)
      have HSrc := Lib.hid (show ∀ (i : Nat) (u : Value), (List.replicate c (.int .i64 1000 : Value))[i]? = some u → wr.cell? ((⟨w.heap.size, 0, none⟩ : Addr).add i) = some u from fun i u hu => by
        have hi : i < c := by have := (List.getElem?_eq_some_iff.1 hu).1; simpa using this
        rw [addr_add0, HZ.out.cell i, List.getElem?_toArray, rep_at (by omega)]
        simp [hi] at hu; rw [hu])
      have HOne := Lib.hid (show ∀ v ∈ List.replicate c (.int .i64 1000 : Value), v.oneCell' = true from fun v hv => by rw [(List.mem_replicate.1 hv).2]; rfl)
      have HSp := Lib.hid (show splice (rep k j) j (List.replicate c (.int .i64 1000)) = rep k (j + c) by unfold splice; rw [List.length_replicate]; exact HCc.out)
      have hkj : ¬ k = j := by omega
      clear hc
      go_wp2
      go_region_law (refine step_copy_splice rfl (.tmp 41) (.tmp 44) 37 37 rfl 3 Tryz.underlying37 (by kernel_rfl) (some ⟨w.heap.size, j, none⟩) (some ⟨w.heap.size, 0, none⟩) (k - j) (k - j) j k (by simp [Act.eval, Act.put]) (by simp [Act.eval, Act.put]) w.heap.size j (rep k j) 3 HZ.out (List.replicate c (.int .i64 1000)) HMc.out (fun _ => ⟨rfl, ⟨w.heap.size, 0, none⟩, rfl, HSrc.out⟩) HFit.out HOne.out w.heap.size w HB.out.drew (Nat.le_refl _) ?_; intro w4 hg4 hb4)
      have HZ4 := Lib.hid (show Has w4 w.heap.size 3 (rep k (j + c)).toArray by have := hg4.out; rw [HSp.out] at this; exact this)
      have HB4 := Lib.hid hb4
      clear hg4 hb4
      simp only [List.getElem_toArray, List.getElem_cons_succ, List.getElem_cons_zero, Act.put, List.setIfInBounds_toArray, List.set_cons_zero, List.set_cons_succ]
      rw [show IntKind.i64.wrap ((j : Int) + (c : Int)) = ((j + c : Nat) : Int) by rw [wI (by omega) (by omega)]; rfl]
      go_roundw
      case rel => exact ⟨_, _, _, _, _, _, _, _, _, _, _, _, _, _, ⟨j + c, by omega, by omega, rfl, HB4.out, HZ4.out⟩, rfl⟩
      case measure => simp [intOf]; omega
    · have hje : j = k := by omega
      subst hje
      go_wp2
      exact bodyPost_ret (results_tmp rfl _ _ _) rfl ⟨rfl, HZ.out, HB.out⟩
end Go.Proofs
namespace Go.Proofs
open Go.RowKit Go.Shelf Gas
attribute [local go_sem ↓] Go.wp_at_zero Go.wp_at_succ

/-- Rows of numbers, owned; the rows lie behind some block. -/
structure Ils (w : World) (base lo : Nat) (v : Value) (m : Nat) (xss : List (List Int)) : Prop where
  ex : ∃ cells, w.ownsRow base 37 1 v xss.length cells ∧ ∀ (j : Nat) xs, xss[j]? = some xs → ∃ D cap, cells[j]? = some (.slice (some ⟨D, 0, none⟩) m cap) ∧ lo ≤ D ∧ RowOf inC 1 w D 3 m xs
theorem Ils.keep {w w' : World} {base lo : Nat} {v : Value} {m : Nat} {xss : List (List Int)} (h : Ils w base lo v m xss) (hb : Below w.heap.size w w') : Ils w' base lo v m xss := by
  obtain ⟨cells, h1, h2⟩ := h.ex
  exact ⟨cells, owns_keep h1 hb, fun j xs hx => by obtain ⟨D, cap, a, b, c⟩ := h2 j xs hx; exact ⟨D, cap, a, b, c.keep hb⟩⟩
theorem Ils.setCell {w : World} {base lo : Nat} {v : Value} {m : Nat} {xss : List (List Int)} (h : Ils w base lo v m xss) {k : Nat} {cs0 : Array Value} (hk : Has w k 3 cs0) (h1 : k < lo) (i : Nat) (u : Value) : Ils (w.setCell ⟨k, i, none⟩ u) base lo v m xss := by
  obtain ⟨cells, a1, a2⟩ := h.ex
  refine ⟨cells, ⟨a1.1, ?_⟩, fun j xs hx => ?_⟩
  · rcases a1.2 with h | ⟨g, cap, cur, e1, e2, e3, e4⟩
    · exact .inl h
    · have hne : g ≠ k := fun e => by subst e; unfold Has at hk; rw [e3] at hk; cases hk
      exact .inr ⟨g, cap, cur, e1, e2, (Has.far (show Has w g 37 cur from e3) (p := ⟨k, i, none⟩) hne u), e4⟩
  · obtain ⟨D, cap, a, b, c⟩ := a2 j xs hx
    exact ⟨D, cap, a, b, c.same (Below.heap_setCell w ⟨k, i, none⟩ u D (by show D ≠ k; omega))⟩
theorem info37i : ∃ i, Tryz.prog.info? 37 = some i ∧ i.zero = some (.slice none 0 0) ∧ i.bytes = 24 ∧ i.size = 1 := by
  have h : (Tryz.prog.info? 37).isSome = true := by kernel_rfl
  exact ⟨(Tryz.prog.info? 37).get h, (Option.some_get _).symm, by kernel_rfl, by kernel_rfl, by kernel_rfl⟩
theorem wpList_app62i {ops : Array Oper} {rest : List Oper} {o : Oper} {a : Act} {w : World} {Q : Exit → Act → World → Prop} (hgd : o.guard = none) (s x : Operand)
    (ho : o.op = .call { callee := .builtin .append, args := #[s, x], argTypes := #[62, 62] })
    (base lo : Nat) (v : Value) (m : Nat) (xss : List (List Int)) (hs : a.eval s = v) (hl : Ils w base lo v m xss) (hlen : xss.length ≤ 1000000)
    (b D cap : Nat) (hx : a.eval x = .slice (some ⟨b, 0, none⟩) 1 1) (hb : Has w b 37 #[.slice (some ⟨D, 0, none⟩) m cap]) (xs : List Int) (hlo : lo ≤ D) (hD : RowOf inC 1 w D 3 m xs) (hbase : base ≤ w.heap.size)
    (h : ∀ v' w', Ils w' base lo v' m (xss ++ [xs]) → Below base w w' → Spares w w' 37 → wpList Tryz.prog ops Q rest (a.put o.dst v') w') : wpList Tryz.prog ops Q (o :: rest) a w := by
  obtain ⟨i, hi, hz, hby, hsz⟩ := info37i
  obtain ⟨cells, h1, h2⟩ := hl.ex
  refine wpList_append_own w hgd s x 62 ho base 37 i _ 1 24 (by kernel_rfl) hi hz hsz hby rfl (by omega) v xss.length _ hs h1 ⟨b, 0, none⟩ 1 1 [.slice (some ⟨D, 0, none⟩) m cap] hx rfl ?_ (by simp [Value.oneCell']) (by unfold maxLen; omega) (by omega) hbase
    (fun v' w' e1 e2 _ => h v' w' ⟨cells ++ [.slice (some ⟨D, 0, none⟩) m cap], by simpa using e1, fun j ys hy => ?_⟩ (below_grown e2 (fun r hr => (h1.lt r hr).1) hbase) (Spares.of_grown h1 e2))
  · intro j u hu
    rw [addr_add0, hb.cell j]
    simpa using hu
  · have hcl : cells.length = xss.length := by simpa using h1.1
    by_cases hj : j < xss.length
    · rw [List.getElem?_append_left hj] at hy
      obtain ⟨E, cp, a1, a0, a2⟩ := h2 j ys hy
      refine ⟨E, cp, by rw [List.getElem?_append_left (by omega)]; exact a1, a0, ?_⟩
      obtain ⟨cur, c1, _⟩ := id a2
      exact a2.same (grown_type h1 e2 c1 (by decide))
    · rw [List.getElem?_append_right (by omega)] at hy
      have hj0 : j - xss.length = 0 := by
        have := (List.getElem?_eq_some_iff.1 hy).1; simp at this; omega
      rw [hj0] at hy; cases hy
      refine ⟨D, cap, by rw [List.getElem?_append_right (by omega), hcl, hj0]; rfl, hlo, ?_⟩
      obtain ⟨cur, c1, _⟩ := id hD
      exact hD.same (grown_type h1 e2 c1 (by decide))
/-- A block of numbers. -/
structure RowI (cur : Array Value) (f : Nat → Int) (n : Nat) : Prop where
  size : cur.size = n
  get : ∀ p, p < n → cur[p]? = some (.int .i64 (f p))
def updI (f : Nat → Int) (p : Nat) (x : Int) : Nat → Int := fun q => if q = p then x else f q
theorem RowI.set {cur : Array Value} {f : Nat → Int} {n p : Nat} (h : RowI cur f n) (hp : p < n) (x : Int) : RowI (cur.setIfInBounds p (.int .i64 x)) (updI f p x) n := by
  refine ⟨by simp [h.size], fun q hq => ?_⟩
  have hs := h.size
  by_cases e : q = p
  · subst e
    simp [updI, Array.getElem?_setIfInBounds]
    omega
  · rw [Array.getElem?_setIfInBounds, if_neg (by omega)]
    simp only [updI, e, if_false]
    exact h.get q hq
theorem flat_ints : ∀ (xs : List Int) (j : Nat), (flat inC xs)[j]? = xs[j]?.map (fun x => Value.int .i64 x)
  | [], j => by simp [flat]
  | x :: xs, 0 => rfl
  | x :: xs, j + 1 => by
    show (inC x ++ flat inC xs)[j + 1]? = _
    simp only [inC, List.singleton_append, List.getElem?_cons_succ]
    exact flat_ints xs j
theorem RowI.row {w : World} {D : Nat} {cur : Array Value} {f : Nat → Int} {n : Nat} (hg : Has w D 3 cur) (h : RowI cur f n) : RowOf inC 1 w D 3 n ((List.range n).map f) := by
  refine ⟨cur, hg, by simp, fun j u hu => ?_⟩
  rw [flat_ints, List.getElem?_map] at hu
  by_cases hj : j < n
  · rw [List.getElem?_range hj] at hu
    simp at hu; subst hu
    exact h.get j hj
  · rw [List.getElem?_eq_none (by simp; omega)] at hu
    simp at hu
def rowT (xs ds ms : List Int) (pn i : Nat) : List Int := (List.range pn).map (heldT xs ds ms i)
def runT (xs ds ms : List Int) (pn n : Nat) : List (List Int) := (List.range (n + 1)).map (rowT xs ds ms pn)
theorem runT_zero (xs ds ms : List Int) (pn : Nat) : runT xs ds ms pn 0 = [rowT xs ds ms pn 0] := rfl
theorem runT_succ (xs ds ms : List Int) (pn n : Nat) : runT xs ds ms pn (n + 1) = runT xs ds ms pn n ++ [rowT xs ds ms pn (n + 1)] := by
  unfold runT; rw [List.range_succ, List.map_append]; rfl
theorem runT_len (xs ds ms : List Int) (pn n : Nat) : (runT xs ds ms pn n).length = n + 1 := by simp [runT]
theorem heldT_bd {rs : List Pr} {dive : List St} {xs ds ms : List Int} (hf : FitP rs dive xs ds ms) (hr : rs.all rateB = true) (hs : ∀ s ∈ dive, SOk s) : ∀ i, i ≤ dive.length → ∀ k, k < rs.length → 0 ≤ heldT xs ds ms i k ∧ heldT xs ds ms i k ≤ 20000
  | 0, _, k, _ => by simp [heldT]
  | i + 1, hi, k, hk => by
    have ih := heldT_bd hf hr hs i (by omega) k hk
    have h1 := hf.rate k hk
    have h2 := rate_wide hr hk
    have h3 := hf.depth i (by omega)
    have hx : dive.getD i st0 = dive[i] := by simp [List.getD_eq_getElem?_getD, show i < dive.length by omega]
    have h4 := hs _ (List.getElem_mem (show i < dive.length by omega))
    rw [hx] at h3
    have h5 := h4.dl
    have h6 := h4.dh
    exact loadF_bd (B := 20000) ⟨by omega, by omega⟩ (by omega) ih.1 ih.2 (by unfold pres; omega) _
/-- What a law keeps in its boxes stays where a later block is written. -/
theorem Bt.setCell {w W : World} {t : Tm} {x : Tr} (h : Bt w t x W) {H : Nat} (hH : w.heap.size + 1 + 1 < H) (i : Nat) (u : Value) : Bt w t x (W.setCell ⟨H, i, none⟩ u) :=
  ⟨setB h.below (by show w.heap.size ≤ H; omega) u, h.tab.far (by show w.heap.size ≠ H; omega) u, h.man.far (by show w.heap.size + 1 ≠ H; omega) u, h.tr.far (by show w.heap.size + 1 + 1 ≠ H; omega) u⟩
def midT (xs ds ms : List Int) (i k : Nat) : Nat → Int := fun j => if j < k then heldT xs ds ms (i + 1) j else heldT xs ds ms i j
theorem midT_zero (xs ds ms : List Int) (i : Nat) : midT xs ds ms i 0 = heldT xs ds ms i := by funext j; simp [midT]
theorem midT_succ (xs ds ms : List Int) (i k : Nat) : updI (midT xs ds ms i k) k (heldT xs ds ms (i + 1) k) = midT xs ds ms i (k + 1) := by
  funext j
  unfold updI midT
  by_cases h : j = k
  · subst h; rw [if_pos rfl, if_pos (by omega)]
  · rw [if_neg h]
    by_cases h2 : j < k
    · rw [if_pos h2, if_pos (by omega)]
    · rw [if_neg h2, if_neg (by omega)]
theorem midT_end {cur : Array Value} {xs ds ms : List Int} {i n : Nat} (h : RowI cur (midT xs ds ms i n) n) : RowI cur (heldT xs ds ms (i + 1)) n :=
  ⟨h.size, fun p hp => by rw [h.get p hp]; simp [midT, hp]⟩
def IsRun (w0 : World) (m : Nat) (xss : List (List Int)) (er : Int) (e : Ending) (w' : World) : Prop := ∃ v, e = .returned (.tuple #[v, .int .i64 er]) ∧ Ils w' w0.heap.size 0 v m xss ∧ Below w0.heap.size w0 w'
def goodB (t : Tm) (n : Nat) (dive : List St) (x : Tr) : Bool := definedB t.ps t.ss t.rs dive 0 && (shapedB t n x && fitsB t.rs dive x)
def runF (t : Tm) (n : Nat) (dive : List St) (x : Tr) : List (List Int) := if goodB t n dive x then runT x.xs x.ds x.ms t.pn n else []
theorem Ils.lower {w : World} {base lo : Nat} {v : Value} {m : Nat} {xss : List (List Int)} (h : Ils w base lo v m xss) : Ils w base 0 v m xss := by
  obtain ⟨cells, h1, h2⟩ := h.ex
  exact ⟨cells, h1, fun j xs hx => by obtain ⟨D, cap, a, _, c⟩ := h2 j xs hx; exact ⟨D, cap, a, Nat.zero_le _, c⟩⟩
theorem Ils.nil (w : World) (base lo m : Nat) : Ils w base lo (.slice none 0 0) m [] := ⟨[], World.ownsRow_nil _ _ _ _, by simp⟩
end Go.Proofs
namespace Go.Proofs
open Go.RowKit Go.Shelf Gas
attribute [local go_sem ↓] Go.wp_at_zero Go.wp_at_succ

theorem clone_r (H n c : Nat) (xs : List Int) (hn : n ≤ 1000) (h0 : 0 < n) (w : World) (hx : RowOf inC 1 w H 3 n xs) :
    Calls Tryz.prog 80 #[.slice (some ⟨H, 0, none⟩) n c] w fun e w' => ∃ D cap, e = .returned (.slice (some ⟨D, 0, none⟩) n cap) ∧ H + 1 ≤ D ∧ RowOf inC 1 w' D 3 n xs ∧ Below w.heap.size w w' := by
  have hl := hx.lt
  refine (clone_c H n c xs hn w (hx.sl inC_len) h0).mono fun e w' ⟨v, h1, h2, h3⟩ => ?_
  rcases h2.2 with ⟨_, h⟩ | ⟨g, cap, cur, rfl, a1, a2, a3, a4, a5, a6⟩
  · omega
  · refine ⟨g, cap, h1, by omega, ⟨cur, a2, (hx.sl inC_len).1, fun j u hu => ?_⟩, h3⟩
    rw [← a6, List.getElem?_take] at hu
    split at hu
    · rw [← Array.getElem?_toList]; exact hu
    · cases hu
theorem rep_row {k : Nat} {w : World} {H : Nat} (_ : Has w H 3 (rep k k).toArray) (xs ds ms : List Int) : RowI (rep k k).toArray (heldT xs ds ms 0) k :=
  ⟨by simp [rep], fun p hp => by simp only [List.getElem?_toArray]; exact rep_at hp⟩

set_option maxHeartbeats 2000000 in
set_option maxRecDepth 50000 in
theorem Run_c (t : Tm) (ht : t.Small) (A : Option Addr) (n c : Nat) (dive : List St) (x : Tr) (hn : n ≤ 100000) (w : World) (hi : t.In w) (hd : SlOf St.cs 4 w A n dive) (hx : x.In w) :
    Calls Tryz.prog 30 #[t.tab, t.man, .slice A n c, x.val] w (IsRun w t.pn (runF t n dive x) (errI (goodB t n dive x))) := by
  have HD := Lib.hid fun (w' : World) (hb : Below w.heap.size w w') => defined_c t ht A n c dive 0 (by omega) (by omega) w' (hi.keep hb) (hd.keep hb)
  have HS := Lib.hid fun (W : World) => shaped_c t A n c x W
  have HF := Lib.hid fun (hm : t.rn = t.pn) (hs : shapedB t n x = true) (W : World) (hb : Below w.heap.size w W) => fits_c t.rA A t.rn t.rc n c t.rs dive x ht.r (by omega) ((shaped_len hs).1.trans hm.symm) (shaped_len hs).2.1 (shaped_len hs).2.2 W (hi.rs.keep hb) (hd.keep hb) (hx.keep hb)
  have HOK := Lib.hid fun h => defined_ok ht hi (dive := dive) (room := 0) h
  have E0 := Lib.hid (Bt.start w t x)
  cases hdb : definedB t.ps t.ss t.rs dive 0
  · rw [hdb] at HD
    have HG := Lib.hid (show goodB t n dive x = false by simp [goodB, hdb])
    have HR := Lib.hid (show runF t n dive x = [] by simp [runF, HG.out])
    rw [HG.out, HR.out]
    clear hi hd hx HF HOK hdb
    obtain ⟨pA, sA, rA, pn, pc, sn, sc, rn, rc, ps, ss, rs⟩ := t
    obtain ⟨xA, dA, mA, xn, xc, dn, dc, mn, mc, xs, ds, ms⟩ := x
    simp only [Tm.tab, Tm.man, Tr.val] at *
    go_enter Tryz.func30, Tryz.ntmps30
    go_wp2_with (go_at_call 76; refine (HD.out _ E0.out.below).mono ?_; rintro e w1 ⟨rfl, hb1⟩; have EE := Lib.hid (E0.out.keep hb1); clear hb1)
    exact bodyPost_ret (results_tmp2 rfl _ _ _) rfl ⟨_, rfl, Ils.nil _ _ _ _, EE.out.below⟩
  · rw [hdb] at HD
    obtain ⟨hok, hds, hlen⟩ := HOK.out hdb
    have hnp := hok.np
    cases hs : shapedB t n x
    · rw [hs] at HS
      have HG := Lib.hid (show goodB t n dive x = false by simp [goodB, hs])
      have HR := Lib.hid (show runF t n dive x = [] by simp [runF, HG.out])
      rw [HG.out, HR.out]
      clear hi hd hx HF HOK hdb hs hnp hok hds
      obtain ⟨pA, sA, rA, pn, pc, sn, sc, rn, rc, ps, ss, rs⟩ := t
      obtain ⟨xA, dA, mA, xn, xc, dn, dc, mn, mc, xs, ds, ms⟩ := x
      simp only [Tm.tab, Tm.man, Tr.val] at *
      go_enter Tryz.func30, Tryz.ntmps30
      go_wp2_with (first
        | (go_at_call 76; refine (HD.out _ E0.out.below).mono ?_; rintro e w1 ⟨rfl, hb1⟩; have EE := Lib.hid (E0.out.keep hb1); have ct := EE.out.tab.cell; have cx := EE.out.tr.cell; clear hb1)
        | (go_at_call 77; refine (HS.out _).mono ?_; rintro e w2 ⟨rfl, hb2⟩; replace EE := Lib.hid (EE.out.keep hb2); clear hb2))
      exact bodyPost_ret (results_tmp2 rfl _ _ _) rfl ⟨_, rfl, Ils.nil _ _ _ _, EE.out.below⟩
    · have HF2 := Lib.hid (HF.out hnp hs)
      rw [hs] at HS
      cases hf : fitsB t.rs dive x
      · rw [hf] at HF2
        have HG := Lib.hid (show goodB t n dive x = false by simp [goodB, hf])
        have HR := Lib.hid (show runF t n dive x = [] by simp [runF, HG.out])
        rw [HG.out, HR.out]
        clear hi hd hx HF HOK hdb hs hnp hok hds hf
        obtain ⟨pA, sA, rA, pn, pc, sn, sc, rn, rc, ps, ss, rs⟩ := t
        obtain ⟨xA, dA, mA, xn, xc, dn, dc, mn, mc, xs, ds, ms⟩ := x
        simp only [Tm.tab, Tm.man, Tr.val] at *
        go_enter Tryz.func30, Tryz.ntmps30
        go_wp2_with (first
          | (go_at_call 76; refine (HD.out _ E0.out.below).mono ?_; rintro e w1 ⟨rfl, hb1⟩; have EE := Lib.hid (E0.out.keep hb1); have ct := EE.out.tab.cell; have cx := EE.out.tr.cell; clear hb1)
          | (go_at_call 77; refine (HS.out _).mono ?_; rintro e w2 ⟨rfl, hb2⟩; replace EE := Lib.hid (EE.out.keep hb2); replace cx := EE.out.tr.cell; have cm := EE.out.man.cell; clear hb2)
          | (go_at_call 78; refine (HF2.out _ EE.out.below).mono ?_; rintro e w3 ⟨rfl, hb3⟩; replace EE := Lib.hid (EE.out.keep hb3); clear hb3))
        exact bodyPost_ret (results_tmp2 rfl _ _ _) rfl ⟨_, rfl, Ils.nil _ _ _ _, EE.out.below⟩
      · have HF3 := Lib.hid fun (W : World) (hb : Below w.heap.size w W) => HF2.out W hb
        rw [hf] at HF3
        clear HF2
        have HG := Lib.hid (show goodB t n dive x = true by simp [goodB, hdb, hs, hf])
        have HR := Lib.hid (show runF t n dive x = runT x.xs x.ds x.ms t.pn n by simp [runF, HG.out])
        rw [HG.out, HR.out]
        obtain ⟨e1, e2, e3⟩ := shaped_len hs
        have hpn : 1 ≤ t.pn ∧ t.pn ≤ 3 := by
          have h1 := hi.ps.1
          simp only [definedB, tableB, inB, Bool.and_eq_true, decide_eq_true_eq] at hdb
          omega
        have hdl := hd.1
        have l1 : x.xs.length = t.rs.length := by rw [hx.xs.1, hi.rs.1]; omega
        have l2 : x.ds.length = dive.length := by rw [hx.ds.1, hd.1]; omega
        have l3 : x.ms.length = dive.length := by rw [hx.ms.1, hd.1]; omega
        have hrl : t.rs.length = t.pn := by rw [hi.rs.1]; exact hnp
        have hfit := fitsB_fit hf l1 l2 l3
        have HBd := Lib.hid fun i hi k hk => heldT_bd hfit hok.rates hds i hi k hk
        have HFit := Lib.hid hfit
        have HRt := Lib.hid fun k (hk : k < t.rs.length) => rate_wide hok.rates hk
        have HDs := Lib.hid hds
        have hn4 : n ≤ 4 := by omega
        have HX := Lib.hid hx
        clear hi hd hx HF HOK hdb hs hnp hok hds hf hfit HG HR
        obtain ⟨pA, sA, rA, pn, pc, sn, sc, rn, rc, ps, ss, rs⟩ := t
        obtain ⟨xA, dA, mA, xn, xc, dn, dc, mn, mc, xs, ds, ms⟩ := x
        simp only at e1 e2 e3 l1 l2 l3 hrl hpn
        subst e1; subst e2; subst e3
        obtain ⟨hxs, hdss, hms⟩ := HX.out
        simp only at hxs hdss hms
        have HXs := Lib.hid hxs; have HDd := Lib.hid hdss; have HMs := Lib.hid hms
        clear HX hxs hdss hms
        simp only [Tm.tab, Tm.man, Tr.val] at *
        have h1000 : xn ≤ 1000 := by omega
        go_enter Tryz.func30, Tryz.ntmps30
        go_wp2_with (first
          | (go_at_call 76; refine (HD.out _ E0.out.below).mono ?_; rintro e w1 ⟨rfl, hb1⟩; have EE := Lib.hid (E0.out.keep hb1); have ct := EE.out.tab.cell; have cx := EE.out.tr.cell; clear hb1)
          | (go_at_call 77; refine (HS.out _).mono ?_; rintro e w2 ⟨rfl, hb2⟩; replace EE := Lib.hid (EE.out.keep hb2); replace ct := EE.out.tab.cell; replace cx := EE.out.tr.cell; have cm := EE.out.man.cell; clear hb2)
          | (go_at_call 78; refine (HF3.out _ EE.out.below).mono ?_; rintro e w3 ⟨rfl, hb3⟩; replace EE := Lib.hid (EE.out.keep hb3); replace ct := (EE.out.tab.alloc (.cells #[.int .i64 1000] 3)).cell; clear hb3)
          | (go_at_call 79; refine (repeat_c w3.heap.size xn hpn.1 hpn.2 _ (Has.new w3 3 _)).mono ?_; rintro e w4 ⟨rfl, hz, hb4⟩; have hH : w.heap.size + 1 + 1 < (w3.alloc (.cells #[.int .i64 1000] 3)).heap.size := (by have := EE.out.tr.lt; simp; omega); have HH := Lib.hid hz; replace EE := Lib.hid ((EE.out.keep (newB (Below.refl _ w3) (.cells #[.int .i64 1000] 3))).keep hb4); generalize (w3.alloc (.cells #[.int .i64 1000] 3)).heap.size = H at *; clear hz hb4 ct)
          | (go_at_call 80; refine (clone_r H xn xn (rowT xs ds ms xn 0) h1000 (by omega) _ ((rep_row HH.out xs ds ms).row HH.out)).mono ?_; rintro e w5 ⟨D, cap, rfl, hD, hrow, hb5⟩; have HRo := Lib.hid hrow; replace EE := Lib.hid (EE.out.keep hb5); replace HH := Lib.hid (HH.out.after hb5); clear hrow hb5))
        have L0 := Lib.hid (show Ils (w5.alloc (.cells #[.slice (some ⟨D, 0, none⟩) xn cap] 37)) w.heap.size (H + 1) (.slice (some ⟨w5.heap.size, 0, none⟩) 1 1) xn (runT xs ds ms xn 0) from by
          refine ⟨[.slice (some ⟨D, 0, none⟩) xn cap], ?_, fun j ys hx => ?_⟩
          · exact World.ownsRow_lit (base := w.heap.size) (e := 37) (size := 1) w5 #[.slice (some ⟨D, 0, none⟩) xn cap] 1 EE.out.below.size (by unfold maxLen; omega) rfl
          · match j, hx with
            | 0, hx =>
              simp [runT_zero] at hx; subst hx
              exact ⟨D, cap, rfl, hD, HRo.out.keep (newB (Below.refl _ w5) _)⟩)
        have E6 := Lib.hid (EE.out.keep (newB (Below.refl _ w5) (.cells #[.slice (some ⟨D, 0, none⟩) xn cap] 37)))
        have HH6 := Lib.hid (HH.out.alloc (.cells #[.slice (some ⟨D, 0, none⟩) xn cap] 37))
        have HI6 := Lib.hid (rep_row HH.out xs ds ms)
        generalize w5.alloc (.cells #[.slice (some ⟨D, 0, none⟩) xn cap] 37) = W6 at *
        generalize w5.heap.size = G6 at *
        clear EE HH HRo cx cm HS HD E0 HF3
        go_loopw [11, 44] (fun o v wr => ∃ (i : Nat) (cur : Array Value), i ≤ mn ∧ v = .int .i64 i ∧ Bt w ⟨pA, sA, rA, xn, pc, sn, sc, rn, rc, ps, ss, rs⟩ ⟨xA, dA, mA, xn, xc, mn, dc, mn, mc, xs, ds, ms⟩ wr ∧ Has wr H 3 cur ∧ RowI cur (heldT xs ds ms i) xn ∧ Ils wr w.heap.size (H + 1) o xn (runT xs ds ms xn i)) (fun _ v _ => mn - (intOf v).toNat)
        case atStart => exact ⟨0, _, by omega, rfl, E6.out, HH6.out, HI6.out, L0.out⟩
        case round =>
          obtain ⟨i, cur0, hi, rfl, hE, hH0, hI0, hL⟩ := hrel
          have EE := Lib.hid hE; have HH0 := Lib.hid hH0; have HI0 := Lib.hid hI0; have HL := Lib.hid hL
          clear hE hH0 hI0 hL E6 HH6 HI6 L0
          by_cases hin : i < mn
          · have hid : i < dive.length := by omega
            have hi2 : i < ds.length := by omega
            have hi3 : i < ms.length := by omega
            obtain ⟨b2, o2, he2⟩ := HDd.out.addr (by omega)
            obtain ⟨b3, o3, he3⟩ := HMs.out.addr (by omega)
            have hx2 := List.getElem?_eq_getElem hi2
            have hx3 := List.getElem?_eq_getElem hi3
            have hd1 := HFit.out.depth i hid
            have hm1 := HFit.out.time i hid
            have hdv : dive.getD i st0 = dive[i] := by simp [List.getD_eq_getElem?_getD, hid]
            have hso := HDs.out _ (List.getElem_mem hid)
            rw [hdv] at hd1 hm1
            have hsl := hso.dl
            have hsh := hso.dh
            have hsm := hso.m
            have hq2 : ds.getD i 0 = ds[i] := by simp [List.getD_eq_getElem?_getD, hi2]
            have hq3 : ms.getD i 0 = ms[i] := by simp [List.getD_eq_getElem?_getD, hi3]
            obtain ⟨d, hdd⟩ : ∃ d, d = ds[i] := ⟨_, rfl⟩
            obtain ⟨q, hqq⟩ : ∃ q, q = ms[i] := ⟨_, rfl⟩
            rw [← hdd] at hx2 hq2; rw [← hqq] at hx3 hq3
            rw [hq2] at hd1; rw [hq3] at hm1
            obtain ⟨m, rfl⟩ := Int.eq_ofNat_of_zero_le (show 0 ≤ q by omega)
            have hdb : 0 ≤ d ∧ d ≤ 100 := by omega
            have hmb : m ≤ 100000 := by omega
            try simp only at he2 he3
            subst he2; subst he3
            have C2 := Lib.hid fun (W : World) (hb : Below w.heap.size w W) => (show W.cell? ⟨b2, o2 + i, none⟩ = some (.int .i64 d) ∧ W.cell? ⟨b3, o3 + i, none⟩ = some (.int .i64 m) from ⟨by simpa using ((HDd.out.keep hb).range inC_len hx2) 0 _ rfl, by simpa using ((HMs.out.keep hb).range inC_len hx3) 0 _ rfl⟩)
            have HSt := Lib.hid fun (k : Nat) => (show heldT xs ds ms (i + 1) k = loadF (heldT xs ds ms i k) (xs.getD k 0) d m by
              show loadF (heldT xs ds ms i k) (xs.getD k 0) (ds.getD i 0) (ms.getD i 0).toNat = _
              rw [hq2, hq3]; rfl)
            have HB0 := Lib.hid fun (k : Nat) (hk : k < rs.length) => HBd.out i (by omega) k hk
            clear hx2 hx3 hd1 hm1 hdv hso hsl hsh hsm hq2 hq3 hdd hqq
            have cx := EE.out.tr.cell
            have HM0 := Lib.hid (show RowI cur0 (midT xs ds ms i 0) xn by rw [midT_zero]; exact HI0.out)
            obtain ⟨wo, rfl⟩ : ∃ wo : World, wo = wr := ⟨_, rfl⟩
            go_wp2
            go_loopw [50] (fun v wr => ∃ (k : Nat) (cur : Array Value), k ≤ xn ∧ v = .int .i64 k ∧ Bt w ⟨pA, sA, rA, xn, pc, sn, sc, rn, rc, ps, ss, rs⟩ ⟨xA, some ⟨b2, o2, none⟩, some ⟨b3, o3, none⟩, xn, xc, mn, dc, mn, mc, xs, ds, ms⟩ wr ∧ Has wr H 3 cur ∧ RowI cur (midT xs ds ms i k) xn ∧ Ils wr w.heap.size (H + 1) u11 xn (runT xs ds ms xn i)) (fun v _ => xn - (intOf v).toNat)
            case atStart => exact ⟨0, _, by omega, rfl, EE.out, HH0.out, HM0.out, HL.out⟩
            case round =>
              clear cx EE HH0 HI0 HM0 HL
              obtain ⟨k, cur, hk, rfl, hE, hH0, hI0, hL⟩ := hrel
              have EE := Lib.hid hE; have HH1 := Lib.hid hH0; have HI1 := Lib.hid hI0; have HL := Lib.hid hL
              clear hE hH0 hI0 hL
              by_cases hkn : k < xn
              · have hk1 : k < xs.length := by omega
                have hk2 : k < rs.length := by omega
                obtain ⟨b1, o1, he1⟩ := HXs.out.addr (by omega)
                have hx1 := List.getElem?_eq_getElem hk1
                have hr1 := HFit.out.rate k hk2
                have hr2 := HRt.out k hk2
                have hq1 : xs.getD k 0 = xs[k] := by simp [List.getD_eq_getElem?_getD, hk1]
                obtain ⟨r, hrr⟩ : ∃ r, r = xs[k] := ⟨_, rfl⟩
                rw [← hrr] at hx1 hq1
                rw [hq1] at hr1
                try simp only at he1
                subst he1
                have C1 := Lib.hid fun (W : World) (hb : Below w.heap.size w W) => (show W.cell? ⟨b1, o1 + k, none⟩ = some (.int .i64 r) from by simpa using ((HXs.out.keep hb).range inC_len hx1) 0 _ rfl)
                have c1 := C1.out wr EE.out.below
                have HSk := Lib.hid (show heldT xs ds ms (i + 1) k = loadF (heldT xs ds ms i k) r d m by rw [HSt.out k, hq1])
                have hb0 := HB0.out k hk2
                have hg0 := HI1.out.get k hkn
                rw [show midT xs ds ms i k k = heldT xs ds ms i k by simp [midT]] at hg0
                have hNx := Lib.hid (HI1.out.set hkn (heldT xs ds ms (i + 1) k))
                rw [midT_succ] at hNx
                generalize heldT xs ds ms i k = h0k at *
                have HLd := Lib.hid fun (W : World) => load_c h0k r d m hb0 (by omega) hdb hmb W
                rw [← HSk.out] at HLd
                generalize heldT xs ds ms (i + 1) k = h1k at *
                have CH := Lib.hid fun (W : World) (hb : Below wr.heap.size wr W) => ((HH1.out.after hb).cell k).trans hg0
                clear hx1 hr1 hr2 hq1 hrr hb0 hg0
                go_wp2
                refine wp_free 19 (by kernel_rfl) (by kernel_rfl) (by kernel_rfl) (by decide) ?_
                intro K hK
                iterate 17 (apply Obl.val (by decide) (by kernel_rfl); (intro w' hb; have := (EE.out.keep hb).tr.cell; have := CH.out w' hb; obtain ⟨f1, f2⟩ := C2.out w' (EE.out.keep hb).below; go_simp; rfl))
                (apply Obl.call (f := 73) (by decide) (by kernel_rfl); (intro w' hb; go_simp; exact rfl); (intro w' hb; exact same_calls (HLd.out w')))
                (apply Obl.val (by decide) (by kernel_rfl); (intro w' hb; go_simp; rfl))
                apply Obl.nil
                apply hK
                intro w7 hb
                simp only [Act.put, List.setIfInBounds_toArray, List.set_cons_zero, List.set_cons_succ, List.drop_succ_cons, List.drop_zero]
                clear hK K
                have E7 := Lib.hid (EE.out.keep hb); have HH7 := Lib.hid (HH1.out.after hb); have L7 := Lib.hid (HL.out.keep hb)
                have c7 := CH.out w7 hb
                have f7 := HH7.out.frozen k
                clear hb c1
                go_wp2
                go_roundw
                case rel => exact ⟨k + 1, _, by omega, by go_num, E7.out.setCell hH k _, HH7.out.set k _, hNx.out, L7.out.setCell HH7.out (by omega) k _⟩
                case measure => simp [intOf]; omega
              · have hke : xn = k := by omega
                subst hke
                have HI2 := Lib.hid (midT_end HI1.out)
                have HRow := Lib.hid (show RowOf inC 1 wr H 3 xn (rowT xs ds ms xn (i + 1)) from HI2.out.row HH1.out)
                have HLn := Lib.hid (show (runT xs ds ms xn i).length ≤ 1000000 by rw [runT_len]; omega)
                go_wp2_with (first
                  | (go_at_call 80; refine (clone_r H xn xn (rowT xs ds ms xn (i + 1)) h1000 (by omega) _ HRow.out).mono ?_; rintro e w8 ⟨D8, cap8, rfl, hD8, hrow8, hb8⟩; have bb := newB (Below.refl _ w8) (.cells #[.slice (some ⟨D8, 0, none⟩) xn cap8] 37); have HRo8 := Lib.hid (hrow8.keep bb); have E8 := Lib.hid ((EE.out.keep hb8).keep bb); have HH8 := Lib.hid ((HH1.out.after hb8).after bb); have L8 := Lib.hid ((HL.out.keep hb8).keep bb); clear hrow8 hb8 bb)
                  | (at_builtin; refine wpList_app62i rfl _ _ rfl w.heap.size (H + 1) u11 xn (runT xs ds ms xn i) rfl L8.out HLn.out w8.heap.size D8 cap8 rfl (Has.new w8 37 _) _ hD8 HRo8.out E8.out.below.size ?_; intro v9 w9 hl9 hb9 hsp; have L9 := Lib.hid hl9; have E9 := Lib.hid (show Bt w ⟨pA, sA, rA, xn, pc, sn, sc, rn, rc, ps, ss, rs⟩ ⟨xA, some ⟨b2, o2, none⟩, some ⟨b3, o3, none⟩, xn, xc, mn, dc, mn, mc, xs, ds, ms⟩ w9 from ⟨E8.out.below.trans hb9, hsp.has E8.out.tab (by decide), hsp.has E8.out.man (by decide), hsp.has E8.out.tr (by decide)⟩); have HH9 := Lib.hid (hsp.has HH8.out (by decide)); clear hl9 hb9 hsp))
                go_roundw
                case rel => exact ⟨i + 1, _, by omega, by go_num, E9.out, HH9.out, HI2.out, by rw [runT_succ]; exact L9.out⟩
                case measure => simp [intOf]; omega
          · have hie : mn = i := by omega
            subst hie
            go_wp2
            exact bodyPost_ret (results_tmp2 rfl _ _ _) rfl ⟨_, rfl, HL.out.lower, EE.out.below⟩
end Go.Proofs
namespace Go.Proofs
open Go.RowKit Go.Shelf Gas
attribute [local go_sem ↓] Go.wp_at_zero Go.wp_at_succ

def preT (xs ds ms : List Int) (i k : Nat) : List Int := (List.range k).map (heldT xs ds ms i)
theorem preT_succ (xs ds ms : List Int) (i k : Nat) : preT xs ds ms i (k + 1) = preT xs ds ms i k ++ [heldT xs ds ms i k] := by
  unfold preT; rw [List.range_succ, List.map_append]; rfl
theorem preT_len (xs ds ms : List Int) (i k : Nat) : (preT xs ds ms i k).length = k := by simp [preT]
theorem owns_row {w : World} {base n : Nat} {v : Value} {xs : List Int} (h : w.ownsRow base 3 1 v n (flat inC xs)) (hl : xs.length = n) (h0 : 0 < n) : ∃ D cap, v = .slice (some ⟨D, 0, none⟩) n cap ∧ base ≤ D ∧ RowOf inC 1 w D 3 n xs := by
  rcases h.2 with ⟨_, h⟩ | ⟨g, cap, cur, rfl, a1, a2, a3, a4, a5, a6⟩
  · omega
  · refine ⟨g, cap, rfl, a1, ⟨cur, a2, hl, fun j u hu => ?_⟩⟩
    rw [← a6, List.getElem?_take] at hu
    split at hu
    · rw [← Array.getElem?_toList]; exact hu
    · cases hu

set_option maxHeartbeats 2000000 in
set_option maxRecDepth 50000 in
theorem refRun_c (x : Tr) (rs : List Pr) (dive : List St) (hr : rs.all rateB = true) (hds : ∀ s ∈ dive, SOk s) (hfit : FitP rs dive x.xs x.ds x.ms) (h1 : x.xn = rs.length) (h2 : x.dn = dive.length) (h3 : x.mn = dive.length) (hm1 : 1 ≤ rs.length) (hm2 : rs.length ≤ 1000) (hn : dive.length ≤ 1000) (w : World) (hx : x.In w) :
    Calls Tryz.prog 36 #[x.val] w fun e w' => ∃ v, e = .returned v ∧ Ils w' w.heap.size 0 v rs.length (runT x.xs x.ds x.ms rs.length dive.length) ∧ Below w.heap.size w w' := by
  have HBd := Lib.hid fun i hi k hk => heldT_bd hfit hr hds i hi k hk
  have HFit := Lib.hid hfit
  have HRt := Lib.hid fun k (hk : k < rs.length) => rate_wide hr hk
  have HDs := Lib.hid hds
  obtain ⟨hxs, hdss, hms⟩ := hx
  obtain ⟨xA, dA, mA, xn, xc, dn, dc, mn, mc, xs, ds, ms⟩ := x
  simp only at h1 h2 h3 hxs hdss hms
  subst h1; subst h2; subst h3
  have l1 := hxs.1; have l2 := hdss.1; have l3 := hms.1
  have HXs := Lib.hid hxs; have HDd := Lib.hid hdss; have HMs := Lib.hid hms
  clear hxs hdss hms hfit hr hds
  obtain ⟨m, hm⟩ : ∃ m, rs.length = m := ⟨_, rfl⟩
  obtain ⟨n, hn'⟩ : ∃ n, dive.length = n := ⟨_, rfl⟩
  have hm3 : 1 ≤ m := by omega
  have hm4 : m ≤ 1000 := by omega
  have hn3 : n ≤ 1000 := by omega
  rw [hm] at HXs l1 ⊢
  rw [hn'] at HDd HMs l2 l3 ⊢
  simp only [Tr.val] at *
  have B0 := Lib.hid (newB (Below.refl w.heap.size w) (.cells #[.slice xA m xc, .slice dA n dc, .slice mA n mc] 56))
  have X0 := Lib.hid (Has.new w 56 #[.slice xA m xc, .slice dA n dc, .slice mA n mc])
  have O0 := Lib.hid (show (w.alloc (.cells #[.slice xA m xc, .slice dA n dc, .slice mA n mc] 56)).ownsRow w.heap.size 3 1 (.slice none 0 0) (preT xs ds ms 0 0).length (flat inC (preT xs ds ms 0 0)) from World.ownsRow_nil _ _ _ _)
  go_enter Tryz.func36, Tryz.ntmps36
  go_wp2
  generalize w.alloc (.cells #[.slice xA m xc, .slice dA n dc, .slice mA n mc] 56) = W0 at *
  go_loopw [3, 4] (fun v i wr => ∃ k : Nat, k ≤ m ∧ i = .int .i64 k ∧ wr.ownsRow w.heap.size 3 1 v (preT xs ds ms 0 k).length (flat inC (preT xs ds ms 0 k)) ∧ Below w.heap.size w wr ∧ Has wr w.heap.size 56 #[.slice xA m xc, .slice dA n dc, .slice mA n mc]) (fun _ i _ => m - (intOf i).toNat)
  case atStart => exact ⟨0, by omega, rfl, O0.out, B0.out, X0.out⟩
  case round =>
    clear O0 B0 X0
    obtain ⟨k, hk, rfl, hO, hB, hX⟩ := hrel
    have HO := Lib.hid hO; have HB := Lib.hid hB; have HX := Lib.hid hX
    have cx := hX.cell
    clear hO hB hX
    by_cases hkn : k < m
    · have HLn := Lib.hid (show (preT xs ds ms 0 k).length ≤ 1000000 by rw [preT_len]; omega)
      go_wp2_with (at_builtin; refine wpList_app37 rfl _ _ rfl w.heap.size u3 (preT xs ds ms 0 k) rfl (HO.out.alloc _) HLn.out wr.heap.size 1000 rfl (Has.new wr 3 _) (newB HB.out _).size ?_; intro v2 w2 ho2 hb2 hsp; have HO2 := Lib.hid ho2; have HB2 := Lib.hid ((newB HB.out _).trans hb2); have HX2 := Lib.hid (hsp.has (HX.out.alloc _) (by decide)); clear ho2 hb2 hsp)
      go_roundw
      case rel => exact ⟨k + 1, by omega, by go_num, by rw [preT_succ]; exact HO2.out, HB2.out, HX2.out⟩
      case measure => simp [intOf]; omega
    · have hke : m = k := by omega
      subst hke
      have ho := HO.out
      rw [preT_len] at ho
      obtain ⟨D, cap, rfl, hD, hrow⟩ := owns_row ho (preT_len _ _ _ _ _) (by omega)
      have HRo := Lib.hid (show RowOf inC 1 wr D 3 m (rowT xs ds ms m 0) from hrow)
      clear ho hrow HO
      obtain ⟨wo, rfl⟩ : ∃ wo : World, wo = wr := ⟨_, rfl⟩
      have bb := newB (Below.refl wo.heap.size wo) (.cells #[.slice (some ⟨D, 0, none⟩) m cap] 37)
      have L1 := Lib.hid (show Ils (wo.alloc (.cells #[.slice (some ⟨D, 0, none⟩) m cap] 37)) w.heap.size 0 (.slice (some ⟨wo.heap.size, 0, none⟩) 1 1) m (runT xs ds ms m 0) from by
        refine ⟨[.slice (some ⟨D, 0, none⟩) m cap], ?_, fun j ys hx => ?_⟩
        · exact World.ownsRow_lit (base := w.heap.size) (e := 37) (size := 1) wo #[.slice (some ⟨D, 0, none⟩) m cap] 1 HB.out.size (by unfold maxLen; omega) rfl
        · match j, hx with
          | 0, hx =>
            simp [runT_zero] at hx; subst hx
            exact ⟨D, cap, rfl, Nat.zero_le _, HRo.out.keep (newB (Below.refl _ wo) _)⟩)
      have HRo1 := Lib.hid (HRo.out.keep bb); have HB1 := Lib.hid (nextB HB.out bb); have HX1 := Lib.hid (HX.out.after bb)
      clear bb HRo
      go_wp2
      generalize wo.alloc (.cells #[.slice (some ⟨D, 0, none⟩) m cap] 37) = W1 at *
      generalize wo.heap.size = G1 at *
      clear HB HX cx
      go_loopw [3, 5, 6] (fun v o j wr => ∃ (i D cap : Nat), i ≤ n ∧ j = .int .i64 i ∧ v = .slice (some ⟨D, 0, none⟩) m cap ∧ RowOf inC 1 wr D 3 m (rowT xs ds ms m i) ∧ Ils wr w.heap.size 0 o m (runT xs ds ms m i) ∧ Below w.heap.size w wr ∧ Has wr w.heap.size 56 #[.slice xA m xc, .slice dA n dc, .slice mA n mc]) (fun _ _ j _ => n - (intOf j).toNat)
      case atStart => exact ⟨0, D, cap, by omega, rfl, rfl, HRo1.out, L1.out, HB1.out, HX1.out⟩
      case round =>
        clear HRo1 L1 HB1 HX1 hD
        obtain ⟨i, D, cap, hi, rfl, rfl, hR, hL, hB, hX⟩ := hrel
        have HR := Lib.hid hR; have HL := Lib.hid hL; have HB := Lib.hid hB; have HX := Lib.hid hX
        have cx := hX.cell
        clear hR hL hB hX
        by_cases hin : i < n
        · have hid : i < dive.length := by omega
          have hi2 : i < ds.length := by omega
          have hi3 : i < ms.length := by omega
          obtain ⟨b2, o2, he2⟩ := HDd.out.addr (by omega)
          obtain ⟨b3, o3, he3⟩ := HMs.out.addr (by omega)
          have hx2 := List.getElem?_eq_getElem hi2
          have hx3 := List.getElem?_eq_getElem hi3
          have hd1 := HFit.out.depth i hid
          have hm1' := HFit.out.time i hid
          have hdv : dive.getD i st0 = dive[i] := by simp [List.getD_eq_getElem?_getD, hid]
          have hso := HDs.out _ (List.getElem_mem hid)
          rw [hdv] at hd1 hm1'
          have hsl := hso.dl
          have hsh := hso.dh
          have hsm := hso.m
          have hq2 : ds.getD i 0 = ds[i] := by simp [List.getD_eq_getElem?_getD, hi2]
          have hq3 : ms.getD i 0 = ms[i] := by simp [List.getD_eq_getElem?_getD, hi3]
          obtain ⟨d, hdd⟩ : ∃ d, d = ds[i] := ⟨_, rfl⟩
          obtain ⟨q, hqq⟩ : ∃ q, q = ms[i] := ⟨_, rfl⟩
          rw [← hdd] at hx2 hq2; rw [← hqq] at hx3 hq3
          rw [hq2] at hd1; rw [hq3] at hm1'
          obtain ⟨mi, rfl⟩ := Int.eq_ofNat_of_zero_le (show 0 ≤ q by omega)
          have hdb : 0 ≤ d ∧ d ≤ 100 := by omega
          have hmb : mi ≤ 100000 := by omega
          subst he2; subst he3
          have C2 := Lib.hid fun (W : World) (hb : Below w.heap.size w W) => (show W.cell? ⟨b2, o2 + i, none⟩ = some (.int .i64 d) ∧ W.cell? ⟨b3, o3 + i, none⟩ = some (.int .i64 mi) from ⟨by simpa using ((HDd.out.keep hb).range inC_len hx2) 0 _ rfl, by simpa using ((HMs.out.keep hb).range inC_len hx3) 0 _ rfl⟩)
          have HSt := Lib.hid fun (k : Nat) => (show heldT xs ds ms (i + 1) k = loadF (heldT xs ds ms i k) (xs.getD k 0) d mi by
            show loadF (heldT xs ds ms i k) (xs.getD k 0) (ds.getD i 0) (ms.getD i 0).toNat = _
            rw [hq2, hq3]; rfl)
          have HB0 := Lib.hid fun (k : Nat) (hk : k < m) => HBd.out i (by omega) k (by omega)
          clear hx2 hx3 hd1 hm1' hdv hso hsl hsh hsm hq2 hq3 hdd hqq
          obtain ⟨wp, rfl⟩ : ∃ wp : World, wp = wr := ⟨_, rfl⟩
          have hrl := HR.out.lt
          go_wp2
          go_loopw [7, 8] (fun v j wr => ∃ (k : Nat), k ≤ m ∧ j = .int .i64 k ∧ wr.ownsRow wp.heap.size 3 1 v (preT xs ds ms (i + 1) k).length (flat inC (preT xs ds ms (i + 1) k)) ∧ Below wp.heap.size wp wr) (fun _ j _ => m - (intOf j).toNat)
          case atStart => exact ⟨0, by omega, rfl, World.ownsRow_nil _ _ _ _, Below.refl _ _⟩
          case round =>
            clear cx
            obtain ⟨k, hk, rfl, hO, hBp⟩ := hrel
            have HO := Lib.hid hO; have HBp := Lib.hid hBp
            clear hO hBp
            by_cases hkn : k < m
            · have hk1 : k < xs.length := by omega
              have hk2 : k < rs.length := by omega
              obtain ⟨b1, o1, he1⟩ := HXs.out.addr (by omega)
              have hx1 := List.getElem?_eq_getElem hk1
              have hr1 := HFit.out.rate k hk2
              have hr2 := HRt.out k (by omega)
              have hq1 : xs.getD k 0 = xs[k] := by simp [List.getD_eq_getElem?_getD, hk1]
              obtain ⟨r, hrr⟩ : ∃ r, r = xs[k] := ⟨_, rfl⟩
              rw [← hrr] at hx1 hq1
              rw [hq1] at hr1
              subst he1
              have C1 := Lib.hid fun (W : World) (hb : Below w.heap.size w W) => (show W.cell? ⟨b1, o1 + k, none⟩ = some (.int .i64 r) from by simpa using ((HXs.out.keep hb).range inC_len hx1) 0 _ rfl)
              have HSk := Lib.hid (show heldT xs ds ms (i + 1) k = loadF (heldT xs ds ms i k) r d mi by rw [HSt.out k, hq1])
              have hb0 := HB0.out k hkn
              have hrw : (rowT xs ds ms m i)[k]? = some (heldT xs ds ms i k) := by simp [rowT, hkn]
              have CR := Lib.hid fun (W : World) (hb : Below wp.heap.size wp W) => (show W.cell? ⟨D, k, none⟩ = some (.int .i64 (heldT xs ds ms i k)) by simpa using (((HR.out.keep hb).sl inC_len).range inC_len hrw) 0 _ rfl)
              have HPs := Lib.hid (preT_succ xs ds ms (i + 1) k)
              have HLn := Lib.hid (show (preT xs ds ms (i + 1) k).length ≤ 1000000 by rw [preT_len]; omega)
              generalize heldT xs ds ms i k = h0k at *
              have HLd := Lib.hid fun (W : World) => refLoad_c h0k r d mi hb0 (by omega) hdb hmb W
              rw [← HSk.out] at HLd
              generalize heldT xs ds ms (i + 1) k = h1k at *
              clear hx1 hr1 hr2 hq1 hrr hb0 hrw
              go_wp2
              apply wp_loose 22 (.v u7 :: .v (.slice (some ⟨D, 0, none⟩) m cap) :: .v (.int .i64 k) :: .v (.pointer (some ⟨D, k, none⟩)) :: .v (.int .i64 h0k) :: .v (.pointer (some ⟨w.heap.size, 0, none⟩)) :: .v (.slice (some ⟨b1, o1, none⟩) m xc) :: .v (.int .i64 k) :: .v (.pointer (some ⟨b1, o1 + k, none⟩)) :: .v (.int .i64 r) :: .v (.pointer (some ⟨w.heap.size, 1, none⟩)) :: .v (.slice (some ⟨b2, o2, none⟩) n dc) :: .v (.int .i64 i) :: .v (.pointer (some ⟨b2, o2 + i, none⟩)) :: .v (.int .i64 d) :: .v (.pointer (some ⟨w.heap.size, 2, none⟩)) :: .v (.slice (some ⟨b3, o3, none⟩) n mc) :: .v (.int .i64 i) :: .v (.pointer (some ⟨b3, o3 + i, none⟩)) :: .v (.int .i64 mi) :: .v (.int .i64 h1k) :: .r (fun v w' => ∃ B, v = .slice (some ⟨B, 0, none⟩) 1 1 ∧ Has w' B 3 #[.int .i64 h1k]) :: []) (by kernel_rfl) (by kernel_rfl) (by kernel_rfl) (by decide) rfl
              intro K hK
              iterate 20 (refine OblS.val (by kernel_rfl) (fun w' hb _ => (by first | (have c0 := CR.out w' (nextB HBp.out hb); have c1 := C1.out w' (nextB HB.out (nextB HBp.out hb)); obtain ⟨f1, f2⟩ := C2.out w' (nextB HB.out (nextB HBp.out hb)); have c3 := (HX.out.after (nextB HBp.out hb)).cell; go_simp; done) | (have c0 := CR.out w' (nextB HBp.out hb); have c1 := C1.out w' (nextB HB.out (nextB HBp.out hb)); obtain ⟨f1, f2⟩ := C2.out w' (nextB HB.out (nextB HBp.out hb)); have c3 := (HX.out.after (nextB HBp.out hb)).cell; go_simp; rfl) | kernel_rfl)) ?_)
              refine OblS.call 25 (by kernel_rfl) (fun w' hb hH => ⟨#[.int .i64 h0k, .int .i64 r, .int .i64 d, .int .i64 mi], (by kernel_rfl), same_calls (HLd.out w')⟩) ?_
              refine OblS.run (by rintro v a b ⟨B, e, h⟩ hb; exact ⟨B, e, h.after hb⟩) (by kernel_rfl) (fun w' hb _ => ⟨_, _, (by kernel_rfl), ⟨w'.heap.size, rfl, Has.new w' 3 _⟩, newB (Below.refl _ _) _⟩) ?_
              intro v2
              apply OblS.nil
              apply hK
              intro w5 hb hH
              obtain ⟨B, rfl, hB⟩ := hH _ (List.mem_cons_self ..)
              have HO5 := Lib.hid (owns_keep HO.out hb); have HBB := Lib.hid hB; have HB5 := Lib.hid (nextB HBp.out hb)
              clear hH hK K hB hb
              simp only [Act.put, List.setIfInBounds_toArray, List.set_cons_zero, List.set_cons_succ, List.drop_succ_cons, List.drop_zero]
              go_wp2_with (at_builtin; refine wpList_app37 rfl _ _ rfl wp.heap.size u7 (preT xs ds ms (i + 1) k) rfl HO5.out HLn.out B h1k rfl HBB.out HB5.out.size ?_; intro v6 w6 ho6 hb6 _; have HO6 := Lib.hid ho6; have HB6 := Lib.hid (HB5.out.trans hb6); clear ho6 hb6)
              go_roundw
              case rel => exact ⟨k + 1, by omega, by go_num, by rw [HPs.out]; exact HO6.out, HB6.out⟩
              case measure => simp [intOf]; omega
            · have hke : m = k := by omega
              subst hke
              have ho := HO.out
              rw [preT_len] at ho
              obtain ⟨D8, cap8, rfl, hD8, hrow8⟩ := owns_row ho (preT_len _ _ _ _ _) (by omega)
              have bb := newB (Below.refl wr.heap.size wr) (.cells #[.slice (some ⟨D8, 0, none⟩) m cap8] 37)
              have HR8 := Lib.hid ((show RowOf inC 1 wr D8 3 m (rowT xs ds ms m (i + 1)) from hrow8).keep bb)
              have HB8 := Lib.hid (nextB (nextB HB.out HBp.out) bb); have HX8 := Lib.hid (HX.out.after (nextB HBp.out bb)); have HL8 := Lib.hid (HL.out.keep (nextB HBp.out bb))
              have HLn := Lib.hid (show (runT xs ds ms m i).length ≤ 1000000 by rw [runT_len]; omega)
              have cx := HX.out.cell
              clear ho hrow8 bb HO
              go_wp2_with (at_builtin; refine wpList_app62i rfl _ _ rfl w.heap.size 0 u5 m (runT xs ds ms m i) rfl HL8.out HLn.out wr.heap.size D8 cap8 rfl (Has.new wr 37 _) _ (Nat.zero_le _) HR8.out HB8.out.size ?_; intro v9 w9 hl9 hb9 hsp; have L9 := Lib.hid hl9; have HB9 := Lib.hid (HB8.out.trans hb9); have HX9 := Lib.hid (hsp.has HX8.out (by decide)); have HR9 := Lib.hid (hsp.row HR8.out (by decide)); clear hl9 hb9 hsp)
              go_roundw
              case rel => exact ⟨i + 1, D8, cap8, by omega, by go_num, rfl, HR9.out, by rw [runT_succ]; exact L9.out, HB9.out, HX9.out⟩
              case measure => simp [intOf]; omega
        · have hie : n = i := by omega
          subst hie
          go_wp2
          exact bodyPost_ret (results_tmp rfl _ _ _) rfl ⟨u5, rfl, HL.out, HB.out⟩
end Go.Proofs
namespace Go.Proofs
open Go.RowKit Go.Shelf Gas
attribute [local go_sem ↓] Go.wp_at_zero Go.wp_at_succ

theorem Ils.form {w : World} {base lo : Nat} {v : Value} {m : Nat} {xss : List (List Int)} (h : Ils w base lo v m xss) : ∃ A c, v = .slice A xss.length c := by
  obtain ⟨cells, h1, _⟩ := h.ex
  rcases h1.2 with ⟨rfl, h0⟩ | ⟨g, cap, cur, rfl, _⟩
  · exact ⟨none, 0, by rw [h0]⟩
  · exact ⟨_, _, rfl⟩
theorem Ils.at {w : World} {base lo : Nat} {A : Option Addr} {n c : Nat} {m : Nat} {xss : List (List Int)} (h : Ils w base lo (.slice A n c) m xss) {k : Nat} {xs : List Int} (hx : xss[k]? = some xs) (hn : xss.length = n) : ∃ g D cap, A = some ⟨g, 0, none⟩ ∧ w.cell? ⟨g, k, none⟩ = some (.slice (some ⟨D, 0, none⟩) m cap) ∧ SlOf inC 1 w (some ⟨D, 0, none⟩) m xs := by
  obtain ⟨cells, h1, h2⟩ := h.ex
  have hk := (List.getElem?_eq_some_iff.1 hx).1
  obtain ⟨D, cp, e1, _, e2⟩ := h2 k xs hx
  rcases h1.2 with ⟨_, h0⟩ | ⟨g, cap, cur, e, _⟩
  · omega
  · cases e
    exact ⟨g, D, cp, rfl, (h1.cellAt k (by omega)).trans e1, e2.sl inC_len⟩

set_option maxHeartbeats 2000000 in
set_option maxRecDepth 50000 in
theorem sameAll_c (A B : Option Addr) (L c d b1 b2 l1 l2 m : Nat) (xss : List (List Int)) (hL : L ≤ 1000000) (hm : m ≤ 1000000) (hl : xss.length = L) (w : World) (hA : Ils w b1 l1 (.slice A L c) m xss) (hB : Ils w b2 l2 (.slice B L d) m xss) :
    Calls Tryz.prog 35 #[.slice A L c, .slice B L d] w fun e w' => e = .returned (.bool true) ∧ Below w.heap.size w w' := by
  have HA := Lib.hid hA; have HB := Lib.hid hB
  clear hA hB
  go_enter Tryz.func35, Tryz.ntmps35
  go_wp2
  go_loopw [5] (fun v wr => ∃ k : Nat, k ≤ L ∧ v = .int .i64 k ∧ Below w.heap.size w wr) (fun v _ => L - (intOf v).toNat)
  case atStart => exact ⟨0, by omega, rfl, Below.refl _ _⟩
  case round =>
    obtain ⟨k, hk, rfl, hB⟩ := hrel
    have HBb := Lib.hid hB
    clear hB
    by_cases hkn : k < L
    · obtain ⟨xs, hx⟩ : ∃ xs, xss[k]? = some xs := ⟨_, List.getElem?_eq_getElem (by omega)⟩
      obtain ⟨g1, D1, p1, rfl, hc1, hs1⟩ := (HA.out.keep HBb.out).at hx hl
      obtain ⟨g2, D2, p2, rfl, hc2, hs2⟩ := (HB.out.keep HBb.out).at hx hl
      have C1 := Lib.hid fun (W : World) (hb : Below wr.heap.size wr W) => ccell hb hc1
      have C2 := Lib.hid fun (W : World) (hb : Below wr.heap.size wr W) => ccell hb hc2
      have HSa := Lib.hid fun (W : World) (hb : Below wr.heap.size wr W) => same_c (some ⟨D1, 0, none⟩) (some ⟨D2, 0, none⟩) m p1 p2 xs hm W (hs1.keep hb) (hs2.keep hb)
      clear hx hc1 hc2 hs1 hs2
      go_wp2
      refine wp_free 10 (by kernel_rfl) (by kernel_rfl) (by kernel_rfl) (by decide) ?_
      intro K hK
      iterate 8 (apply Obl.val (by decide) (by kernel_rfl); (intro w' hb; have := C1.out w' hb; have := C2.out w' hb; go_simp; rfl))
      (apply Obl.call (f := 46) (by decide) (by kernel_rfl); (intro w' hb; go_simp; exact rfl); (intro w' hb; exact HSa.out w' hb))
      (apply Obl.val (by decide) (by kernel_rfl); (intro w' hb; go_simp; rfl))
      apply Obl.nil
      apply hK
      intro w7 hb
      simp only [Act.put, List.setIfInBounds_toArray, List.set_cons_zero, List.set_cons_succ, List.drop_succ_cons, List.drop_zero]
      clear hK K
      have HB7 := Lib.hid (nextB HBb.out hb)
      clear hb
      go_wp2
      go_roundw
      case rel => exact ⟨k + 1, by omega, by go_num, HB7.out⟩
      case measure => simp [intOf]; omega
    · have hke : k = L := by omega
      subst hke
      go_wp2
      exact bodyPost_ret (results_tmp rfl _ _ _) rfl ⟨rfl, HBb.out⟩

/-- Whether what is held at a moment by a compartment is allowed. -/
def okT (ps : List Pr) (xs ds ms : List Int) (n i k : Nat) : Bool := decide (heldT xs ds ms i k ≤ (ps.getD k (0, 0)).1 + (ps.getD k (0, 0)).2 * (if i < n then ds.getD i 0 else 0))
def keptB (ps : List Pr) (xs ds ms : List Int) (m n : Nat) : Bool := (List.range (n + 1)).all fun i => (List.range m).all fun k => okT ps xs ds ms n i k
def keptI (ps : List Pr) (xs ds ms : List Int) (m n : Nat) : Int := if keptB ps xs ds ms m n then 1 else 0

set_option maxHeartbeats 2000000 in
set_option maxRecDepth 50000 in
theorem kept_c (t : Tm) (ht : t.Ok) (dive : List St) (x : Tr) (hds : ∀ s ∈ dive, SOk s) (hfit : FitP t.rs dive x.xs x.ds x.ms) (h2 : x.dn = dive.length) (hn : dive.length ≤ 1000) (L : Option Addr) (N c b0 l0 : Nat) (w : World) (hi : t.In w) (hx : x.In w)
    (hN : N = dive.length + 1) (hL : Ils w b0 l0 (.slice L N c) t.pn (runT x.xs x.ds x.ms t.pn dive.length)) :
    Calls Tryz.prog 41 #[t.tab, x.val, .slice L N c] w fun e w' => e = .returned (.int .i64 (keptI t.ps x.xs x.ds x.ms t.pn dive.length)) ∧ Below w.heap.size w w' := by
  have hrl : t.rs.length = t.pn := by rw [hi.rs.1]; exact ht.np
  have hpl : t.ps.length = t.pn := hi.ps.1
  have HBd := Lib.hid fun i hi k hk => heldT_bd hfit ht.rates hds i hi k hk
  have HPt := Lib.hid fun k (hk : k < t.ps.length) => ht.part hk
  have hpn := ht.small.p
  obtain ⟨hxs, hdss, hms⟩ := hx
  obtain ⟨xA, dA, mA, xn, xc, dn, dc, mn, mc, xs, ds, ms⟩ := x
  simp only at h2 hxs hdss hms hfit hL HBd
  subst h2
  have l2 := hdss.1
  have HDd := Lib.hid hdss
  have HPp := Lib.hid hi.ps
  have HLl := Lib.hid hL
  have HDB := Lib.hid fun i (hi : i < dive.length) => (show 0 ≤ ds.getD i 0 ∧ ds.getD i 0 ≤ 40 by
    have h := hfit.depth i hi
    have e : dive.getD i st0 = dive[i] := by simp [List.getD_eq_getElem?_getD, hi]
    have s := hds _ (List.getElem_mem hi)
    rw [e] at h
    have a := s.dl; have b := s.dh
    omega)
  clear hxs hdss hms hfit hds ht hi hL
  obtain ⟨n, hn'⟩ : ∃ n, dive.length = n := ⟨_, rfl⟩
  rw [hn'] at hn hN l2 HDd HLl HBd HDB ⊢
  clear hn'
  obtain ⟨pA, sA, rA, pn, pc, sn, sc, rn, rc, ps, ss, rs⟩ := t
  simp only [Tm.tab, Tr.val] at *
  rw [hrl] at HBd
  rw [hpl] at HPt
  have HRl := Lib.hid (runT_len xs ds ms pn n)
  have HRr := Lib.hid fun (i : Nat) (h : i < n + 1) => (show (runT xs ds ms pn n)[i]? = some (rowT xs ds ms pn i) by simp [runT, h])
  have HRk := Lib.hid fun (i k : Nat) (h : k < pn) => (show (rowT xs ds ms pn i)[k]? = some (heldT xs ds ms i k) by simp [rowT, h])
  have B0 := Lib.hid (newB (newB (Below.refl w.heap.size w) (.cells #[.slice pA pn pc, .slice sA sn sc] 50)) (.cells #[.slice xA xn xc, .slice dA n dc, .slice mA mn mc] 56))
  have T0 := Lib.hid ((Has.new w 50 #[.slice pA pn pc, .slice sA sn sc]).alloc (.cells #[.slice xA xn xc, .slice dA n dc, .slice mA mn mc] 56))
  have X0 := Lib.hid (Has.new' (w.alloc (.cells #[.slice pA pn pc, .slice sA sn sc] 50)) 56 #[.slice xA xn xc, .slice dA n dc, .slice mA mn mc] (g := w.heap.size + 1) (by simp))
  have hne : ¬ (N : Int) ≠ (n : Int) + 1 := by omega
  go_enter Tryz.func41, Tryz.ntmps41
  go_wp2
  generalize (w.alloc (.cells #[.slice pA pn pc, .slice sA sn sc] 50)).alloc (.cells #[.slice xA xn xc, .slice dA n dc, .slice mA mn mc] 56) = W0 at *
  go_loopw [7] (fun v wr => ∃ i : Nat, i ≤ N ∧ v = .int .i64 i ∧ Below w.heap.size w wr ∧ Has wr w.heap.size 50 #[.slice pA pn pc, .slice sA sn sc] ∧ Has wr (w.heap.size + 1) 56 #[.slice xA xn xc, .slice dA n dc, .slice mA mn mc]) (fun v _ => N - (intOf v).toNat)
  case atStart => exact ⟨0, by omega, rfl, B0.out, T0.out, X0.out⟩
  case round =>
    clear B0 T0 X0
    obtain ⟨i, hi, rfl, hB, hT, hX⟩ := hrel
    have HB := Lib.hid hB; have HT := Lib.hid hT; have HX := Lib.hid hX
    have ct := hT.cell
    clear hB hT hX
    by_cases hin : i < N
    · obtain ⟨g, D, cap, rfl, hc, hs⟩ := (HLl.out.keep HB.out).at (HRr.out i (by omega)) (by rw [HRl.out]; omega)
      have C1 := Lib.hid fun (W : World) (hb : Below wr.heap.size wr W) => ccell hb hc
      clear hc hs
      go_wp2
      refine wp_free 9 (by kernel_rfl) (by kernel_rfl) (by kernel_rfl) (by decide) ?_
      intro K hK
      iterate 9 (apply Obl.val (by decide) (by kernel_rfl); (intro w' hb; have := C1.out w' hb; have := (HT.out.after hb).cell; go_simp; try rfl))
      apply Obl.nil
      apply hK
      intro w7 hb
      simp only [Act.put, List.setIfInBounds_toArray, List.set_cons_zero, List.set_cons_succ, List.drop_succ_cons, List.drop_zero]
      clear hK K
      have HB7 := Lib.hid (nextB HB.out hb); have HT7 := Lib.hid (HT.out.after hb); have HX7 := Lib.hid (HX.out.after hb)
      clear hb ct
      go_wp2
      go_roundw
      case rel => exact ⟨i + 1, by omega, by go_num, HB7.out, HT7.out, HX7.out⟩
      case measure => simp [intOf]; omega
    · have hie : N = i := by omega
      subst hie
      go_wp2
      go_loopw [8] (fun v wr => ∃ i : Nat, i ≤ N ∧ v = .int .i64 i ∧ Below w.heap.size w wr ∧ Has wr w.heap.size 50 #[.slice pA pn pc, .slice sA sn sc] ∧ Has wr (w.heap.size + 1) 56 #[.slice xA xn xc, .slice dA n dc, .slice mA mn mc] ∧ ∀ j, j < i → ∀ k, k < pn → okT ps xs ds ms n j k = true) (fun v _ => N - (intOf v).toNat)
      case atStart => exact ⟨0, by omega, rfl, HB.out, HT.out, HX.out, fun j hj => by omega⟩
      case round =>
        clear HB HT HX ct
        obtain ⟨i, hi, rfl, hB, hT, hX, hA⟩ := hrel
        have HB := Lib.hid hB; have HT := Lib.hid hT; have HX := Lib.hid hX; have HA := Lib.hid hA
        have cx := hX.cell
        clear hB hT hX hA
        by_cases hin : i < N
        · obtain ⟨wo, rfl⟩ : ∃ wo : World, wo = wr := ⟨_, rfl⟩
          by_cases hid : i < n
          · obtain ⟨b2, o2, he2⟩ := HDd.out.addr (by omega)
            have hi2 : i < ds.length := by omega
            have hx2 := List.getElem?_eq_getElem hi2
            have hq2 : ds.getD i 0 = ds[i] := by simp [List.getD_eq_getElem?_getD, hi2]
            obtain ⟨d, hdd⟩ : ∃ d, d = ds[i] := ⟨_, rfl⟩
            rw [← hdd] at hx2 hq2
            have hdb := HDB.out i hid
            rw [hq2] at hdb
            have HIf := Lib.hid (show (if i < n then ds.getD i 0 else 0) = d by rw [if_pos hid, hq2])
            try simp only at he2
            subst he2
            have cd : wo.cell? ⟨b2, o2 + i, none⟩ = some (.int .i64 d) := by simpa using ((HDd.out.keep HB.out).range inC_len hx2) 0 _ rfl
            clear hx2 hq2 hdd
            go_wp2
            go_loopw [10] (fun v wr => ∃ k : Nat, k ≤ pn ∧ v = .int .i64 k ∧ Below w.heap.size w wr ∧ Has wr w.heap.size 50 #[.slice pA pn pc, .slice sA sn sc] ∧ Has wr (w.heap.size + 1) 56 #[.slice xA xn xc, .slice (some ⟨b2, o2, none⟩) n dc, .slice mA mn mc] ∧ ∀ j, j < k → okT ps xs ds ms n i j = true) (fun v _ => pn - (intOf v).toNat)
            case atStart => exact ⟨0, by omega, rfl, HB.out, HT.out, HX.out, fun j hj => by omega⟩
            case round =>
              clear HB HT HX cx cd
              obtain ⟨k, hk, rfl, hB, hT, hX, hA2⟩ := hrel
              have HB := Lib.hid hB; have HT := Lib.hid hT; have HX := Lib.hid hX; have HA2 := Lib.hid hA2
              clear hB hT hX hA2
              obtain ⟨g, D, cap, rfl, hc, hs⟩ := (HLl.out.keep HB.out).at (HRr.out i (by omega)) (by rw [HRl.out]; omega)
              have C1 := Lib.hid fun (W : World) (hb : Below wr.heap.size wr W) => ccell hb hc
              have HS1 := Lib.hid hs
              have c1 := hc
              clear hs
              by_cases hkn : k < pn
              · have hkp : k < ps.length := by omega
                obtain ⟨b4, o4, he4⟩ := HPp.out.addr (by omega)
                have hx4 := List.getElem?_eq_getElem hkp
                have hq4 : ps.getD k (0, 0) = ps[k] := by simp [List.getD_eq_getElem?_getD, hkp]
                have hpt := HPt.out k hkn
                obtain ⟨p, hpp⟩ : ∃ p, p = ps[k] := ⟨_, rfl⟩
                rw [← hpp] at hx4 hq4
                obtain ⟨l, sl⟩ := p
                rw [hq4] at hpt
                simp only at hpt
                have hb := HBd.out i (by omega) k hkn
                have hsd := slope_bd (s := sl) (d := d) ⟨hpt.2.2.1, hpt.2.2.2⟩ (by omega)
                have HOk := Lib.hid (show okT ps xs ds ms n i k = decide (heldT xs ds ms i k ≤ l + sl * d) by unfold okT; rw [HIf.out, hq4])
                try simp only at he4
                subst he4
                have C4 := Lib.hid fun (W : World) (hb : Below w.heap.size w W) => (show W.cell? ⟨b4, o4 + k * 2, none⟩ = some (.int .i64 l) ∧ W.cell? ⟨b4, o4 + k * 2 + 1, none⟩ = some (.int .i64 sl) from ⟨by simpa using ((HPp.out.keep hb).range prC_len hx4) 0 _ rfl, ((HPp.out.keep hb).range prC_len hx4) 1 _ rfl⟩)
                have CD := Lib.hid fun (W : World) (hb : Below wr.heap.size wr W) => (show W.cell? ⟨D, k, none⟩ = some (.int .i64 (heldT xs ds ms i k)) by simpa using ((HS1.out.keep hb).range inC_len (HRk.out i k hkn)) 0 _ rfl)
                generalize heldT xs ds ms i k = h at *
                have hw1 : IntKind.i64.wrap (sl * d) = sl * d := wI (by omega) (by omega)
                have hw2 : IntKind.i64.wrap (l + sl * d) = l + sl * d := wI (by omega) (by omega)
                have HW1 := Lib.hid hw1; have HW2 := Lib.hid hw2; have HW3 := Lib.hid (show IntKind.i64.wrap l = l from wI (by omega) (by omega))
                clear hx4 hq4 hpp hpt hw1 hw2
                go_wp2
                refine wp_free 23 (by kernel_rfl) (by kernel_rfl) (by kernel_rfl) (by decide) ?_
                intro K hK
                iterate 20 (apply Obl.val (by decide) (by kernel_rfl); (intro w' hb; have := C1.out w' hb; have := CD.out w' hb; obtain ⟨f1, f2⟩ := C4.out w' (nextB HB.out hb); have := (HT.out.after hb).cell; go_simp; try rfl))
                (apply Obl.val (v := .int .i64 (sl * d)) (by decide) (by kernel_rfl); (intro w' hb; have := HW1.out; go_simp; try first | done | rfl))
                (apply Obl.val (v := .int .i64 (l + sl * d)) (by decide) (by kernel_rfl); (intro w' hb; have := HW2.out; have := HW3.out; go_simp; try first | done | rfl))
                (apply Obl.val (v := .bool (decide (h > l + sl * d))) (by decide) (by kernel_rfl); (intro w' hb; go_simp; try first | done | rfl))
                apply Obl.nil
                apply hK
                intro w7 hb
                simp only [Act.put, List.setIfInBounds_toArray, List.set_cons_zero, List.set_cons_succ, List.drop_succ_cons, List.drop_zero]
                clear hK K
                have HB7 := Lib.hid (nextB HB.out hb); have HT7 := Lib.hid (HT.out.after hb); have HX7 := Lib.hid (HX.out.after hb)
                clear hb c1
                by_cases hgt : h > l + sl * d
                · have HK := Lib.hid (show keptI ps xs ds ms pn n = 0 by
                    have hf : okT ps xs ds ms n i k = false := by rw [HOk.out]; exact decide_eq_false (by omega)
                    have : keptB ps xs ds ms pn n = false := by
                      rw [Bool.eq_false_iff]
                      intro hall
                      simp only [keptB, List.all_eq_true, List.mem_range] at hall
                      rw [hall i (by omega) k hkn] at hf
                      cases hf
                    simp [keptI, this])
                  rw [decide_eq_true hgt]
                  go_wp2
                  exact bodyPost_ret (results_tmp rfl _ _ _) rfl ⟨by rw [HK.out]; rfl, HB7.out⟩
                · have HN := Lib.hid (show okT ps xs ds ms n i k = true by rw [HOk.out]; exact decide_eq_true (by omega))
                  rw [decide_eq_false hgt]
                  go_wp2
                  go_roundw
                  case rel => exact ⟨k + 1, by omega, by go_num, HB7.out, HT7.out, HX7.out, fun j hj => by
                    rcases Nat.lt_succ_iff_lt_or_eq.1 hj with h1 | rfl
                    · exact HA2.out j h1
                    · exact HN.out⟩
                  case measure => simp [intOf]; omega
              · have hke : k = pn := by omega
                subst hke
                go_wp2
                go_roundw
                case rel => exact ⟨i + 1, by omega, by go_num, HB.out, HT.out, HX.out, fun j hj k' hk' => by
                  rcases Nat.lt_succ_iff_lt_or_eq.1 hj with h1 | rfl
                  · exact HA.out j h1 k' hk'
                  · exact HA2.out k' hk'⟩
                case measure => simp [intOf]; omega
          · have hdb : (0 : Int) ≤ 0 ∧ (0 : Int) ≤ 40 := by omega
            have HIf := Lib.hid (show (if i < n then ds.getD i 0 else 0) = 0 by rw [if_neg hid])
            go_wp2
            go_loopw [10] (fun v wr => ∃ k : Nat, k ≤ pn ∧ v = .int .i64 k ∧ Below w.heap.size w wr ∧ Has wr w.heap.size 50 #[.slice pA pn pc, .slice sA sn sc] ∧ Has wr (w.heap.size + 1) 56 #[.slice xA xn xc, .slice dA n dc, .slice mA mn mc] ∧ ∀ j, j < k → okT ps xs ds ms n i j = true) (fun v _ => pn - (intOf v).toNat)
            case atStart => exact ⟨0, by omega, rfl, HB.out, HT.out, HX.out, fun j hj => by omega⟩
            case round =>
              clear HB HT HX cx 
              obtain ⟨k, hk, rfl, hB, hT, hX, hA2⟩ := hrel
              have HB := Lib.hid hB; have HT := Lib.hid hT; have HX := Lib.hid hX; have HA2 := Lib.hid hA2
              clear hB hT hX hA2
              obtain ⟨g, D, cap, rfl, hc, hs⟩ := (HLl.out.keep HB.out).at (HRr.out i (by omega)) (by rw [HRl.out]; omega)
              have C1 := Lib.hid fun (W : World) (hb : Below wr.heap.size wr W) => ccell hb hc
              have HS1 := Lib.hid hs
              have c1 := hc
              clear hs
              by_cases hkn : k < pn
              · have hkp : k < ps.length := by omega
                obtain ⟨b4, o4, he4⟩ := HPp.out.addr (by omega)
                have hx4 := List.getElem?_eq_getElem hkp
                have hq4 : ps.getD k (0, 0) = ps[k] := by simp [List.getD_eq_getElem?_getD, hkp]
                have hpt := HPt.out k hkn
                obtain ⟨p, hpp⟩ : ∃ p, p = ps[k] := ⟨_, rfl⟩
                rw [← hpp] at hx4 hq4
                obtain ⟨l, sl⟩ := p
                rw [hq4] at hpt
                simp only at hpt
                have hb := HBd.out i (by omega) k hkn
                have hsd := slope_bd (s := sl) (d := 0) ⟨hpt.2.2.1, hpt.2.2.2⟩ (by omega)
                have HOk := Lib.hid (show okT ps xs ds ms n i k = decide (heldT xs ds ms i k ≤ l + sl * 0) by unfold okT; rw [HIf.out, hq4])
                try simp only at he4
                subst he4
                have C4 := Lib.hid fun (W : World) (hb : Below w.heap.size w W) => (show W.cell? ⟨b4, o4 + k * 2, none⟩ = some (.int .i64 l) ∧ W.cell? ⟨b4, o4 + k * 2 + 1, none⟩ = some (.int .i64 sl) from ⟨by simpa using ((HPp.out.keep hb).range prC_len hx4) 0 _ rfl, ((HPp.out.keep hb).range prC_len hx4) 1 _ rfl⟩)
                have CD := Lib.hid fun (W : World) (hb : Below wr.heap.size wr W) => (show W.cell? ⟨D, k, none⟩ = some (.int .i64 (heldT xs ds ms i k)) by simpa using ((HS1.out.keep hb).range inC_len (HRk.out i k hkn)) 0 _ rfl)
                generalize heldT xs ds ms i k = h at *
                have hw1 : IntKind.i64.wrap (sl * 0) = sl * 0 := wI (by omega) (by omega)
                have hw2 : IntKind.i64.wrap (l + sl * 0) = l + sl * 0 := wI (by omega) (by omega)
                have HW1 := Lib.hid hw1; have HW2 := Lib.hid hw2; have HW3 := Lib.hid (show IntKind.i64.wrap l = l from wI (by omega) (by omega))
                clear hx4 hq4 hpp hpt hw1 hw2
                go_wp2
                refine wp_free 23 (by kernel_rfl) (by kernel_rfl) (by kernel_rfl) (by decide) ?_
                intro K hK
                iterate 20 (apply Obl.val (by decide) (by kernel_rfl); (intro w' hb; have := C1.out w' hb; have := CD.out w' hb; obtain ⟨f1, f2⟩ := C4.out w' (nextB HB.out hb); have := (HT.out.after hb).cell; go_simp; try rfl))
                (apply Obl.val (v := .int .i64 (sl * 0)) (by decide) (by kernel_rfl); (intro w' hb; have := HW1.out; go_simp; try first | done | rfl))
                (apply Obl.val (v := .int .i64 (l + sl * 0)) (by decide) (by kernel_rfl); (intro w' hb; have := HW2.out; have := HW3.out; go_simp; try first | done | rfl))
                (apply Obl.val (v := .bool (decide (h > l + sl * 0))) (by decide) (by kernel_rfl); (intro w' hb; go_simp; try first | done | rfl))
                apply Obl.nil
                apply hK
                intro w7 hb
                simp only [Act.put, List.setIfInBounds_toArray, List.set_cons_zero, List.set_cons_succ, List.drop_succ_cons, List.drop_zero]
                clear hK K
                have HB7 := Lib.hid (nextB HB.out hb); have HT7 := Lib.hid (HT.out.after hb); have HX7 := Lib.hid (HX.out.after hb)
                clear hb c1
                by_cases hgt : h > l + sl * 0
                · have HK := Lib.hid (show keptI ps xs ds ms pn n = 0 by
                    have hf : okT ps xs ds ms n i k = false := by rw [HOk.out]; exact decide_eq_false (by omega)
                    have : keptB ps xs ds ms pn n = false := by
                      rw [Bool.eq_false_iff]
                      intro hall
                      simp only [keptB, List.all_eq_true, List.mem_range] at hall
                      rw [hall i (by omega) k hkn] at hf
                      cases hf
                    simp [keptI, this])
                  rw [decide_eq_true hgt]
                  go_wp2
                  exact bodyPost_ret (results_tmp rfl _ _ _) rfl ⟨by rw [HK.out]; rfl, HB7.out⟩
                · have HN := Lib.hid (show okT ps xs ds ms n i k = true by rw [HOk.out]; exact decide_eq_true (by omega))
                  rw [decide_eq_false hgt]
                  go_wp2
                  go_roundw
                  case rel => exact ⟨k + 1, by omega, by go_num, HB7.out, HT7.out, HX7.out, fun j hj => by
                    rcases Nat.lt_succ_iff_lt_or_eq.1 hj with h1 | rfl
                    · exact HA2.out j h1
                    · exact HN.out⟩
                  case measure => simp [intOf]; omega
              · have hke : k = pn := by omega
                subst hke
                go_wp2
                go_roundw
                case rel => exact ⟨i + 1, by omega, by go_num, HB.out, HT.out, HX.out, fun j hj k' hk' => by
                  rcases Nat.lt_succ_iff_lt_or_eq.1 hj with h1 | rfl
                  · exact HA.out j h1 k' hk'
                  · exact HA2.out k' hk'⟩
                case measure => simp [intOf]; omega
        · have hie : i = N := by omega
          subst hie
          have HK := Lib.hid (show keptI ps xs ds ms pn n = 1 by
            have : keptB ps xs ds ms pn n = true := by
              simp only [keptB, List.all_eq_true, List.mem_range]
              exact fun j hj k hk => HA.out j (by omega) k hk
            simp [keptI, this])
          go_wp2
          exact bodyPost_ret (results_tmp rfl _ _ _) rfl ⟨by rw [HK.out]; rfl, HB.out⟩
end Go.Proofs
