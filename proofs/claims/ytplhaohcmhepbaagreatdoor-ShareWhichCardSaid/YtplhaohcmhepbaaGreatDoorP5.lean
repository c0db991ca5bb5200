/-
  Contracts of lists of numbers that a function yields, and of the best of them, hold at every list of moderate size.
-/
import Derived.Test.YtplhaohcmhepbaaGreatDoorP4
import Derived.Test.YtplhaohcmhepbaaGreatDoorP1
namespace Go.Proofs
open Go.RowKit Go.Shelf
attribute [local go_sem ↓] Go.wp_at_zero Go.wp_at_succ

/-- The members of a set, up to some number. -/
def memTo (s : Int) (k : Nat) : List Nat := (List.range k).filter fun j => hasB s j
def membersL (s : Int) : List Nat := memTo s 12
theorem memTo_succ (s : Int) (k : Nat) : memTo s (k + 1) = memTo s k ++ (if hasB s k then [k] else []) := by
  unfold memTo
  rw [List.range_succ, List.filter_append]
  simp only [List.filter_cons, List.filter_nil]
theorem small_has {s : Int} {k : Nat} (h0 : 0 ≤ s) (hs : s / 2 ^ k ≤ 0) : hasB s k = false := by
  have h1 : s / 2 ^ k = 0 := by
    have : 0 ≤ s / 2 ^ k := Int.ediv_nonneg h0 (Int.le_of_lt (Int.pow_pos (by omega)))
    omega
  unfold hasB
  rw [h1]; rfl
theorem small_next {s : Int} {k : Nat} (h0 : 0 ≤ s) (hs : s / 2 ^ k ≤ 0) : s / 2 ^ (k + 1) ≤ 0 := by
  rw [Int.pow_succ, ← Int.ediv_ediv_of_nonneg (Int.le_of_lt (Int.pow_pos (by omega)))]
  have h1 : s / 2 ^ k = 0 := by
    have : 0 ≤ s / 2 ^ k := Int.ediv_nonneg h0 (Int.le_of_lt (Int.pow_pos (by omega)))
    omega
  rw [h1]; decide
theorem memTo_rest {s : Int} {k : Nat} (h0 : 0 ≤ s) (hs : s / 2 ^ k ≤ 0) : ∀ j, memTo s (k + j) = memTo s k
  | 0 => rfl
  | j + 1 => by
    have key : ∀ j, s / 2 ^ (k + j) ≤ 0 := by
      intro j
      induction j with
      | zero => exact hs
      | succ j ih => exact small_next h0 ih
    rw [← Nat.add_assoc, memTo_succ, memTo_rest h0 hs j, small_has h0 (key j)]
    simp
theorem memTo_len (s : Int) (k : Nat) : (memTo s k).length ≤ k := by
  have := List.length_filter_le (fun j => hasB s j) (List.range k)
  simpa [memTo] using this
def ints (l : List Nat) : List Int := l.map fun k : Nat => (k : Int)

set_option maxHeartbeats 1000000 in
theorem members_c (s : Int) (h0 : 0 ≤ s) (h1 : s ≤ 4095) (w : World) : Calls Tryz.prog 139 #[.int .i64 s] w (Gives eI w (ints (membersL s))) := by
  have H12 := Lib.hid (show s / 2 ^ 12 ≤ 0 by rw [show (2 : Int) ^ 12 = 4096 by decide]; omega)
  have HH := Lib.hid fun (k : Nat) (hk : k ≤ 60) (w' : World) => has_c s k hk w'
  go_enter Tryz.func139, Tryz.ntmps139
  go_wp2
  go_loopw [3, 4] (fun t v wr => ∃ k : Nat, k ≤ 12 ∧ v = .int .i64 k ∧ Own eI w.heap.size t (ints (memTo s k)) wr ∧ Below w.heap.size w wr) (fun _ v _ => 12 - (intOf v).toNat)
  case atStart => exact ⟨0, by omega, rfl, by simpa [memTo, ints] using Own.nil eI w.heap.size w, Below.refl _ _⟩
  case round =>
    obtain ⟨k, hk, rfl, hO, hB⟩ := hrel
    have HO := Lib.hid hO; have HB := Lib.hid hB
    clear hO hB
    by_cases hpos : 0 < s / 2 ^ k
    · have hk12 : k < 12 := by
        rcases Nat.lt_or_ge k 12 with h | h
        · exact h
        · have : k = 12 := by omega
          subst this
          have := H12.out; omega
      have HL := Lib.hid (show (ints (memTo s k)).length ≤ 20000000 by have := memTo_len s k; simp [ints]; omega)
      cases hc : hasB s k
      · have HC := Lib.hid hc
        have HN := Lib.hid (show memTo s (k + 1) = memTo s k by rw [memTo_succ, hc]; simp)
        clear hc
        go_wp2_with (go_at_call 128; refine (HH.out k (by omega) _).mono ?_; rintro e w1 ⟨rfl, rfl⟩; rw [HC.out])
        go_roundw
        case rel => exact ⟨k + 1, by omega, by go_num, by rw [HN.out]; exact HO.out, HB.out⟩
        case measure => simp [intOf]; omega
      · have HC := Lib.hid hc
        have HN := Lib.hid (show ints (memTo s (k + 1)) = ints (memTo s k) ++ [(k : Int)] by rw [memTo_succ, hc]; simp [ints])
        clear hc
        go_wp2_with (first
          | (go_at_call 128; refine (HH.out k (by omega) _).mono ?_; rintro e w1 ⟨rfl, rfl⟩; rw [HC.out])
          | (at_builtin; refine El.app1 eI_ok rfl _ _ rfl w.heap.size u3 (ints (memTo s k)) rfl (HO.out.alloc (.cells #[.int .i64 k] 3)) HL.out wr.heap.size k rfl (Has.new wr 3 _) (newB HB.out _).size ?_; intro v3 w3 ho3 hb3 _; have HO3 := Lib.hid ho3; have HB3 := Lib.hid ((newB HB.out (.cells #[.int .i64 k] 3)).trans hb3); clear ho3 hb3))
        go_roundw
        case rel => exact ⟨k + 1, by omega, by go_num, by rw [HN.out]; exact HO3.out, HB3.out⟩
        case measure => simp [intOf]; omega
    · have hpd : decide (0 < s / 2 ^ k) = false := by simpa using hpos
      have HE := Lib.hid (show memTo s k = membersL s by
        have := memTo_rest h0 (k := k) (by omega) (12 - k)
        unfold membersL
        rw [← this]; congr 1; omega)
      go_wp2
      exact bodyPost_ret (results_tmp rfl _ _ _) rfl ⟨_, rfl, by rw [← HE.out]; exact HO.out, HB.out⟩
end Go.Proofs
namespace Go.Proofs
open Go.RowKit Go.Shelf
attribute [local go_sem ↓] Go.wp_at_zero Go.wp_at_succ

section
variable {α : Type} {e : El α} {base : Nat} {v : Value} {xs : List α} {w w' : World}
theorem Own.frozen {g n cap : Nat} (h : Own e base (.slice (some ⟨g, 0, none⟩) n cap) xs w) (i : Nat) : w.frozen? ⟨g, i, none⟩ = false := by
  rcases h.2 with ⟨h, _⟩ | ⟨g', cap', cur, e1, _, e3, _⟩
  · cases h
  · cases e1
    exact Has.frozen (t := e.E) (cs := cur) e3 i
theorem Own.blt {g n cap : Nat} (h : Own e base (.slice (some ⟨g, 0, none⟩) n cap) xs w) : g < w.heap.size := (World.ownsRow.lt h g rfl).2
theorem Own.addr {A : Option Addr} {n cap : Nat} (h : Own e base (.slice A n cap) xs w) (hn : 0 < n) : ∃ g, A = some ⟨g, 0, none⟩ := by
  rcases h.2 with ⟨h1, h2⟩ | ⟨g', cap', cur, e1, _⟩
  · cases h1; omega
  · cases e1; exact ⟨g', rfl⟩
theorem flat_set {f : α → List Value} {sz : Nat} (hf : ∀ x, (f x).length = sz) : ∀ (xs : List α) (k j : Nat) (x x' : α) (u : Value), xs[k]? = some x → j < sz → f x' = (f x).set j u → flat f (xs.set k x') = (flat f xs).set (k * sz + j) u
  | [], _, _, _, _, _, h, _, _ => by simp at h
  | y :: r, 0, j, x, x', u, h, hj, he => by
    simp at h; subst h
    simp only [List.set_cons_zero, flat, Nat.zero_mul, Nat.zero_add, he]
    rw [List.set_append_left _ _ (by rw [hf]; exact hj)]
  | y :: r, k + 1, j, x, x', u, h, hj, he => by
    have ih := flat_set hf r k j x x' u (by simpa using h) hj he
    simp only [List.set_cons_succ, flat, ih]
    rw [List.set_append_right _ _ (by rw [hf, Nat.add_mul]; omega)]
    congr 2
    rw [hf, Nat.add_mul]; omega
/-- One number of one thing of a list is set anew. -/
theorem Own.setAt (hk : e.Ok) {g n cap : Nat} (h : Own e base (.slice (some ⟨g, 0, none⟩) n cap) xs w) {k j : Nat} {x x' : α} {u : Value} (hx : xs[k]? = some x) (hj : j < e.sz) (he : e.f x' = (e.f x).set j u) :
    Own e base (.slice (some ⟨g, 0, none⟩) n cap) (xs.set k x') (w.setCell ⟨g, k * e.sz + j, none⟩ u) := by
  have hkl := (List.getElem?_eq_some_iff.1 hx).1
  have hfl := flat_len hk.len xs
  have hpos : k * e.sz + j < (flat e.f xs).length := by
    rw [hfl]
    have := Nat.mul_le_mul_right e.sz (show k + 1 ≤ xs.length by omega)
    rw [Nat.add_mul] at this
    omega
  rcases h.2 with ⟨h1, _⟩ | ⟨g', cap', cur, e1, e2, e3, e4, e5, e6, e7⟩
  · cases h1
  · cases e1
    have hcur : k * e.sz + j < cur.size := by
      have : (flat e.f xs).length ≤ cur.size := by
        have := congrArg List.length e7
        rw [List.length_take] at this
        simp only [Array.length_toList] at this
        omega
      omega
    refine ⟨by rw [flat_len hk.len], .inr ⟨g, cap, cur.setIfInBounds (k * e.sz + j) u, by simp, e2, ?_, by simpa using e4, e5, by simpa using e6, ?_⟩⟩
    · exact Has.set (t := e.E) (cs := cur) e3 _ u
    · rw [flat_set hk.len xs k j x x' u hx hj he, Array.toList_setIfInBounds, List.length_set]
      rw [List.take_set, e7]
end

theorem upTo_c (n : Nat) (hn : n ≤ 10) (w : World) : Calls Tryz.prog 147 #[.int .i64 n] w (Gives eI w (ints (List.range n))) := by
  obtain ⟨p0, p1⟩ := pow2_bd n (by omega)
  have HE := Lib.hid (show membersL (2 ^ n - 1) = List.range n by
    have : n = 0 ∨ n = 1 ∨ n = 2 ∨ n = 3 ∨ n = 4 ∨ n = 5 ∨ n = 6 ∨ n = 7 ∨ n = 8 ∨ n = 9 ∨ n = 10 := by omega
    rcases this with rfl | rfl | rfl | rfl | rfl | rfl | rfl | rfl | rfl | rfl | rfl <;> decide +kernel)
  have h1k : (2 : Int) ^ n ≤ 1024 := by
    have : (2 : Nat) ^ n ≤ 2 ^ 10 := Nat.pow_le_pow_right (by omega) hn
    have e : ((2 ^ n : Nat) : Int) = (2 : Int) ^ n := by push_cast; rfl
    rw [← e]; omega
  have E := Lib.hid (show wrap64 (wrap64 (2 ^ n) - 1) = 2 ^ n - 1 by
    rw [IntWalk.wrap64_in (2 ^ n) (by omega), IntWalk.wrap64_in (2 ^ n - 1) (by omega)])
  have HM := Lib.hid fun (w' : World) => (show Calls Tryz.prog 139 #[.int .i64 (wrap64 (wrap64 (2 ^ n) - 1))] w' (Gives eI w' (ints (List.range n))) from by
    have := members_c (2 ^ n - 1) (by omega) (by omega) w'
    rw [HE.out] at this
    rw [E.out]; exact this)
  clear p0 p1 h1k
  go_enter Tryz.func147, Tryz.ntmps147
  go_wp2_with (go_at_call 139; refine (HM.out _).mono ?_; rintro e w1 ⟨v, rfl, ho, hb⟩; have HO := Lib.hid ho; have HB := Lib.hid hb; clear ho hb)
  exact bodyPost_ret (results_tmp rfl _ _ _) rfl ⟨v, rfl, HO.out, HB.out⟩

theorem with_c (A : Option Addr) (n c : Nat) (xs : List Int) (y : Int) (hn : n ≤ 1000) (w : World) (hA : SlOf inC 1 w A n xs) : Calls Tryz.prog 173 #[.slice A n c, .int .i64 y] w (Gives eI w (xs ++ [y])) := by
  have HC := Lib.hid fun (w' : World) (hb : Below w.heap.size w w') => cloneI_c A n c xs (by omega) w' (hA.keep hb)
  have HL := Lib.hid (show xs.length ≤ 20000000 by rw [hA.1]; omega)
  clear hA
  go_enter Tryz.func173, Tryz.ntmps173
  go_wp2_with (first
    | (go_at_call 154; refine (HC.out _ (Below.refl _ _)).mono ?_; rintro e w1 ⟨v, rfl, ho, hb⟩; have HO := Lib.hid ho; have HB := Lib.hid hb; clear ho hb)
    | (at_builtin; refine El.app1 eI_ok rfl _ _ rfl w.heap.size v xs rfl (HO.out.alloc (.cells #[.int .i64 y] 3)) HL.out w1.heap.size y rfl (Has.new w1 3 _) (newB HB.out _).size ?_; intro v3 w3 ho3 hb3 _; have HO3 := Lib.hid ho3; have HB3 := Lib.hid ((newB HB.out (.cells #[.int .i64 y] 3)).trans hb3); clear ho3 hb3))
  exact bodyPost_ret (results_tmp rfl _ _ _) rfl ⟨v3, rfl, HO3.out, HB3.out⟩

/-- A person deserts. -/
def desert (x : Pe) : Pe := { x with f := 2 }
def desL (ps : List Pe) (ds : List Nat) : List Pe := ds.foldl (fun ps d => ps.modify d desert) ps
theorem desL_len : ∀ (ds : List Nat) (ps : List Pe), (desL ps ds).length = ps.length
  | [], _ => rfl
  | d :: r, ps => by simp only [desL, List.foldl_cons]; have := desL_len r (ps.modify d desert); simp only [desL] at this; rw [this]; simp
theorem desL_take (ps : List Pe) (ds : List Nat) (k : Nat) (h : k < ds.length) : desL ps (ds.take (k + 1)) = (desL ps (ds.take k)).modify ds[k] desert := by
  simp only [desL]
  rw [← List.take_append_getElem h, List.foldl_append]; rfl

set_option maxHeartbeats 2000000 in
theorem deserted_c (s : Sv) (hp : s.pn ≤ 1000) (A : Option Addr) (n c : Nat) (ds : List Nat) (hn : n ≤ 1000) (hd : ∀ d ∈ ds, d < s.pn) (w : World) (hi : s.In w) (hA : SlOf inC 1 w A n (ints ds)) :
    Calls Tryz.prog 170 #[s.val, .slice A n c] w fun e w' => ∃ pA' pc', e = .returned (.agg #[.slice pA' s.pn pc', .slice s.lA s.ln s.lc]) ∧ SlOf Pe.cs 3 w' pA' s.pn (desL s.ps ds) ∧ Below w.heap.size w w' := by
  have HC := Lib.hid fun (w' : World) (hb : Below w.heap.size w w') => cloneP_c s.pA s.pn s.pc s.ps (by omega) w' (hi.ps.keep hb)
  have HPL := Lib.hid hi.ps.1
  obtain ⟨pA, lA, pn, pc, ln, lc, ps, ls⟩ := s
  simp only [Sv.val] at *
  have HA := Lib.hid hA; have HN := Lib.hid (show ds.length = n by have := hA.1; simpa [ints] using this); have HD := Lib.hid hd
  clear hi hA hd
  have F2 := Lib.hid ((Has.new w 25 #[.slice pA pn pc, .slice lA ln lc]).alloc (.cells #[.slice none 0 0, .slice none 0 0] 25))
  have F4 := Lib.hid (Has.new' (w.alloc (.cells #[.slice pA pn pc, .slice lA ln lc] 25)) 25 #[.slice none 0 0, .slice none 0 0] (g := w.heap.size + 1) (by simp))
  have B0 := Lib.hid (newB (newB (Below.refl w.heap.size w) (.cells #[.slice pA pn pc, .slice lA ln lc] 25)) (.cells #[.slice none 0 0, .slice none 0 0] 25))
  go_enter Tryz.func170, Tryz.ntmps170
  go_wp2_with (go_at_call 182; refine (HC.out _ B0.out).mono ?_; rintro e w1 ⟨v, rfl, ho, hb⟩; obtain ⟨pA', pc', rfl, _, _⟩ := Own.sl ho; rw [HPL.out] at ho ⊢; have HO := Lib.hid ho; have HB := Lib.hid (nextB B0.out hb); have h2 := F2.out.after hb; have c2 := h2.cell; have f2 := h2.frozen; have z2 := h2.lt; have H2 := Lib.hid h2; have H4 := Lib.hid (F4.out.after hb); clear ho hb h2)
  have hz0 : w.heap.size < w1.heap.size := by have := H4.out.lt; omega
  have hfr : ∀ g, pA' = some ⟨g, 0, none⟩ → w.heap.size + 2 ≤ g := fun g h => by subst h; have := HO.out.from; simpa using this
  have HSt := Lib.hid (HO.out.setFar (i := 0) H2.out (by decide) (.slice pA' pn pc'))
  have HB2 := Lib.hid (setB HB.out (p := ⟨w.heap.size, 0, none⟩) (by simp) (.slice pA' pn pc'))
  have H22 := Lib.hid (show Has (w1.setCell ⟨w.heap.size, 0, none⟩ (.slice pA' pn pc')) w.heap.size 25 #[.slice pA' pn pc', .slice lA ln lc] from H2.out.set 0 _)
  have H42 := Lib.hid (H4.out.far (p := ⟨w.heap.size, 0, none⟩) (by simp) (.slice pA' pn pc'))
  have HFr := Lib.hid hfr
  generalize w1.setCell ⟨w.heap.size, 0, none⟩ (.slice pA' pn pc') = W2 at *
  clear c2 f2 z2 hfr hz0
  go_loopw [13] (fun v wr => ∃ k : Nat, k ≤ n ∧ v = .int .i64 k ∧ Below w.heap.size w wr ∧ Has wr w.heap.size 25 #[.slice pA' pn pc', .slice lA ln lc] ∧ Has wr (w.heap.size + 1) 25 #[.slice none 0 0, .slice none 0 0] ∧ Own eP (w.heap.size + 2) (.slice pA' pn pc') (desL ps (ds.take k)) wr) (fun v _ => n - (intOf v).toNat)
  case atStart => exact ⟨0, by omega, rfl, HB2.out, H22.out, H42.out, by simpa [desL] using HSt.out.lower (by simp)⟩
  case round =>
    obtain ⟨k, hk, rfl, hB, h2, h4, hO⟩ := hrel
    have HB3 := Lib.hid hB; have H23 := Lib.hid h2; have H43 := Lib.hid h4; have HO3 := Lib.hid hO
    have c2 := h2.cell; have z2 := h2.lt
    clear hB h2 h4 hO
    by_cases hkn : k < n
    · have hkl : k < ds.length := by rw [HN.out]; exact hkn
      obtain ⟨b, o, he⟩ := HA.out.addr (by omega)
      have hdk := HD.out _ (List.getElem_mem hkl)
      have HT := Lib.hid (desL_take ps ds k hkl)
      have hx : (ints ds)[k]? = some ((ds[k] : Nat) : Int) := by simp [ints, List.getElem?_eq_getElem hkl]
      obtain ⟨d, hdd⟩ : ∃ d, d = ds[k] := ⟨_, rfl⟩
      rw [← hdd] at hdk HT hx
      subst he
      have hc : wr.cell? ⟨b, o + k, none⟩ = some (.int .i64 d) := by have := (HA.out.keep HB3.out).range inC_len hx 0 _ rfl; simpa using this
      obtain ⟨g, rfl⟩ := HO3.out.addr (by omega)
      have hgf := HO3.out.from
      have hdl : d < (desL ps (ds.take k)).length := by rw [desL_len, HPL.out]; exact hdk
      have hxd := List.getElem?_eq_getElem hdl
      obtain ⟨x, hxx⟩ : ∃ x, x = (desL ps (ds.take k))[d] := ⟨_, rfl⟩
      rw [← hxx] at hxd
      have hsl : SlOf Pe.cs 3 wr (some ⟨g, 0, none⟩) pn (desL ps (ds.take k)) := by
        obtain ⟨A', c', e1, h1, _⟩ := HO3.out.sl
        simp only [Value.slice.injEq] at e1
        obtain ⟨rfl, e2, _⟩ := e1
        rw [e2]; exact h1
      obtain ⟨x0, x1, x2⟩ := x
      have hcell : wr.cell? ⟨g, d * 3 + 2, none⟩ = some (.int .i64 x2) := by have := hsl.range Pe.cs_len hxd 2 _ rfl; simpa using this
      have hfz := HO3.out.frozen (d * 3 + 2)
      have hgl := HO3.out.blt
      have HSet := Lib.hid (HO3.out.setAt eP_ok (x' := ⟨x0, x1, 2⟩) (u := .int .i64 2) (j := 2) hxd (by decide) rfl)
      have HMd := Lib.hid (show desL ps (ds.take (k + 1)) = (desL ps (ds.take k)).set d ⟨x0, x1, 2⟩ by
        rw [HT.out]
        apply List.ext_getElem?
        intro i
        rw [List.getElem?_modify, List.getElem?_set]
        by_cases hdi : d = i
        · subst hdi; rw [if_pos rfl, if_pos hdl, hxd]; simp [desert]
        · rw [if_neg hdi]; simp [hdi])
      clear hsl hxd hxx hx hdd
      go_wp2
      go_roundw
      case rel => exact ⟨k + 1, by omega, by go_num, setB HB3.out (by simp; omega) _, H23.out.far (by simp; omega) _, H43.out.far (by simp; omega) _, by rw [HMd.out]; exact HSet.out⟩
      case measure => simp [intOf]; omega
    · have hkn' : k = n := by omega
      subst hkn'
      have HE := Lib.hid (show ds.take k = ds from List.take_of_length_le (by rw [HN.out]; exact Nat.le_refl _))
      rw [HE.out] at HO3
      have HSl := Lib.hid (show ∀ cs, SlOf Pe.cs 3 (wr.setRow (w.heap.size + 1) cs) pA' pn (desL ps ds) from fun cs => by
        obtain ⟨A', c', e1, h1, _⟩ := (HO3.out.setRowFar H43.out (by decide) cs).sl
        simp only [Value.slice.injEq] at e1
        obtain ⟨rfl, e2, _⟩ := e1
        rw [e2]; exact h1)
      go_wp2_with (first
        | (refine wpList_load_row rfl 25 _ rfl w.heap.size rfl 25 _ (0, 0) _ H23.out Tryz.underlying25 rfl (by kernel_rfl) ?_)
        | (refine wpList_store_all rfl 25 _ _ rfl (w.heap.size + 1) rfl _ rfl 25 _ H43.out (by kernel_rfl) rfl (by simp [Value.oneCell']) ?_))
      refine bodyPost_ret (results_cell_row rfl _ _ (w.heap.size + 1) 25 _ (0, 0) _ rfl (H43.out.setRow _) Tryz.underlying25 rfl (by kernel_rfl)) rfl ⟨pA', pc', rfl, ?_, rowB HB3.out (by omega) _⟩
      exact HSl.out _
end Go.Proofs
namespace Go.Proofs
open Go.RowKit

/-- What a round leaves as it lay: the cells of the blocks that are named, and all that lies from L on. -/
structure Kc (D : Nat → Prop) (L : Nat) (W W' : World) : Prop where
  size : W.heap.size ≤ W'.heap.size
  low : ∀ (k : Nat) (cs : Array Value) (t : TypeId) (fr : Nat × Nat), D k → W.heap[k]? = some (.cells cs t fr) → W'.heap[k]? = some (.cells cs t fr)
  high : ∀ (k : Nat) (o : Obj), L ≤ k → W.heap[k]? = some o → W'.heap[k]? = some o
section
variable {D D' : Nat → Prop} {L L' : Nat}
theorem Kc.same {W W' : World} (h : Kc D L W W') (k : Nat) (cs : Array Value) (t : TypeId) (fr : Nat × Nat) (hk : D k ∨ L ≤ k) (hc : W.heap[k]? = some (.cells cs t fr)) : W'.heap[k]? = some (.cells cs t fr) := by
  rcases hk with hk | hk
  · exact h.low k cs t fr hk hc
  · exact h.high k _ hk hc
theorem Kc.refl (D : Nat → Prop) (L : Nat) (W : World) : Kc D L W W := ⟨Nat.le_refl _, fun _ _ _ _ _ h => h, fun _ _ _ h => h⟩
theorem Kc.trans {X Y Z : World} (h : Kc D L X Y) (k : Kc D L Y Z) : Kc D L X Z := ⟨Nat.le_trans h.size k.size, fun i cs t fr hi hc => k.low i cs t fr hi (h.low i cs t fr hi hc), fun i o hi hc => k.high i o hi (h.high i o hi hc)⟩
theorem Kc.below {W W' : World} (h : Below W.heap.size W W') : Kc D L W W' := ⟨h.size, fun k _ _ _ _ hc => (h.block k (Array.getElem?_eq_some_iff.1 hc).1).trans hc, fun k _ _ hc => (h.block k (Array.getElem?_eq_some_iff.1 hc).1).trans hc⟩
theorem Kc.put {W : World} {l : Nat} {o : Obj} (o' : Obj) (hl : W.heap[l]? = some o) (hc : o.isCells = false) (hL : l < L) : Kc D L W (W.putObj l o') :=
  ⟨by simp [World.putObj], fun k cs t fr _ hk => by
    by_cases e : k = l
    · subst e; rw [hl] at hk; cases hk; cases hc
    · exact (World.putObj_heap_other e).trans hk, fun k o2 hk hk2 => (World.putObj_heap_other (by omega)).trans hk2⟩
theorem Kc.store (W : World) (p : Addr) (u : Value) (h1 : ¬ D p.block) (h2 : p.block < L) : Kc D L W (W.setCell p u) :=
  ⟨by simp, fun k cs t fr hk hc => (Below.heap_setCell W p u k (fun e => h1 (by rw [← e]; exact hk))).trans hc, fun k o hk hc => (Below.heap_setCell W p u k (by omega)).trans hc⟩
theorem Kc.wide {W W' : World} (h : Kc D L W W') (hD : ∀ k, D' k → D k ∨ L ≤ k) (hL : L ≤ L') : Kc D' L' W W' := ⟨h.size, fun k cs t fr hk hc => h.same k cs t fr (hD k hk) hc, fun k o hk hc => h.high k o (by omega) hc⟩
theorem Kc.keeps {M : Nat} {W W' : World} (h : Kc D L W W') (hM : L ≤ M) : KeepsFrom M W W' := ⟨h.size, fun k o hk ho _ => h.high k o (by omega) ho⟩
end

/-- What a function that hands its things to a loop does, where each round says that it goes on: the things are handed over one by one, each with what is known of it when it is handed over. -/
def Sq {α : Type} (g : Nat) (lb : Array Value) (encs : α → Array Value) (Hx : α → World → Prop) (S : List α → Prop) (D : Nat → Prop) (w : World) : Prop :=
  ∀ (l : Nat) (J : List α → World → Prop) (W : World), Below w.heap.size w W → OwnFrom W.heap.size J →
    (∀ pre x W1, J pre W1 → Hx x W1 → W.heap.size ≤ W1.heap.size → YieldAt Fence.wide 1 Tryz.prog l (encs x) W1 fun e W' => e = .returned (.bool true) ∧ J (pre ++ [x]) W' ∧ Kc D W.heap.size W1 W') →
    J [] W → Calls Tryz.prog g (#[.func (.yield l) #[] #[]] ++ lb) W fun e W' => (∃ v, e = .returned v) ∧ ∃ xs, S xs ∧ J xs W'

/-- Where the body of a round is left: off its end, and the loop goes on. -/
def sqPost {α : Type} (D : Nat → Prop) (B : Nat) (I : List α → World → Prop) (xs : List α) (W : World) : Exit → Act → World → Prop
  | .normal, _, W' => KeepsFrom B W W' ∧ Kc D (B + 2) W W' ∧ I xs W'
  | _, _, _ => False

set_option maxHeartbeats 1000000 in
/-- A loop over such a function, at the wide fence. -/
theorem wp_seq {α : Type} {g : Operand} {ps : Array Tmp} {assign body : Code} {Q : Exit → Act → World → Prop} {a : Act} {w : World}
    (gf : Nat) (lb : Array Value) (hg : a.eval g = .func (.func gf) #[] lb) (eg : ∀ args w, (callFunc gf args).run Tryz.prog w = .ok (.enter gf args) w)
    {encs : α → Array Value} {Hx : α → World → Prop} {S : List α → Prop} {D : Nat → Prop} {w0 : World} (hseq : Sq gf lb encs Hx S D w0) (hHx : OwnFrom w.heap.size Hx) (hb0 : Below w0.heap.size w0 w) (hps : ∀ x, (encs x).size = ps.size)
    (I : List α → World → Prop) (hI : OwnFrom w.heap.size I) (h0 : I [] w) (Ax : α → Act → World → Prop) (hAx : ∀ a', OwnFrom w.heap.size (fun x W => Ax x a' W))
    (hassign : ∀ (l : Nat) (pre : List α) (x : α) (W : World) (K : Act → World → Prop), w.heap.size ≤ W.heap.size → I pre W → Hx x W → (∀ a' W', KeepsFrom w.heap.size W W' → Kc D (w.heap.size + 2) W W' → I pre W' → Hx x W' → Ax x a' W' → K a' W') →
      assign.wpIn (Fence.wide.inRound l) 1 Tryz.prog (Exit.then K (fun _ _ _ => False)) { tmps := (ps.zip (encs x)).foldl (fun t (p, v) => t.setIfInBounds p v) a.tmps, defers := [] } W)
    (hbody : ∀ (l : Nat) (pre : List α) (x : α) (a' : Act) (W : World), w.heap.size ≤ W.heap.size → I pre W → Hx x W → Ax x a' W → body.wpIn (Fence.wide.inRound l) 1 Tryz.prog (sqPost D w.heap.size I (pre ++ [x]) W) a' W)
    (hdone : ∀ (Q0 : Nat) (xs : List α) (W : World), w.heap.size ≤ Q0 → S xs → I xs W → W.heap[Q0]? = some (.deferred (some [])) → Q .normal { a with defers := { target := .collected Q0, args := #[] } :: a.defers } W) :
    (Code.rangeFunc g ps assign body).wp Tryz.prog Q a w := by
  refine (wpIn_wide (n := 3)).1 (wpIn_rangeFunc ?_)
  intro fn _
  obtain ⟨rec, hrec⟩ : ∃ rec : LoopState → Option Code → Loop, rec = fun st pe => { state := st, pending := pe, fn, tmps := a.tmps, params := ps, assign, body, defers := w.heap.size } := ⟨_, rfl⟩
  let B := w.heap.size
  let W1 := (w.alloc (.deferred (some []))).alloc (.loop (rec .ready none))
  have hW1s : W1.heap.size = w.heap.size + 2 := by simp [W1]
  have hL1 : W1.heap[w.heap.size + 1]? = some (.loop (rec .ready none)) := by
    have := World.alloc_heap_new (w.alloc (.deferred (some []))) (.loop (rec .ready none)); rwa [World.size_alloc] at this
  have hK1 : W1.heap[w.heap.size]? = some (.deferred (some [])) := (Below.heap_alloc _ _ _ (by simp)).trans (World.alloc_heap_new w _)
  have hI1 : I [] W1 := hI.alloc _ (hI.alloc _ h0)
  have hb1 : Below w0.heap.size w0 W1 := hb0.trans ((((Below.refl _ w).alloc (Nat.le_refl _) _).alloc (by simp) _).mono hb0.size)
  have hfar : ∀ {X : World} {row : Option Nat}, (∀ r, row = some r → W1.heap.size ≤ r ∧ ∃ o : Obj, X.heap[r]? = some o ∧ o.isCells = false) → ∀ r, row = some r → w.heap.size ≤ r ∧ ∃ o : Obj, X.heap[r]? = some o ∧ o.isCells = false := by
    intro X row hr r e
    obtain ⟨h1, h2⟩ := hr r e
    exact ⟨by omega, h2⟩
  refine ⟨w.heap.size + 1, [{ target := .collected w.heap.size, args := #[] }], W1, { target := .fn (.func gf) lb, args := #[.func (.yield (w.heap.size + 1)) #[] #[]] }, W1, gf, #[.func (.yield (w.heap.size + 1)) #[] #[]] ++ lb, W1, ?_, ?_, fun _ _ => trivial, ?_, fun _ => by omega, ?_⟩
  · show (Instr.enterLoop fn a.tmps ps assign body none).run Tryz.prog w = _
    have := run_enterLoop_outer (P := Tryz.prog) (w := w) fn a.tmps ps assign body
    rw [this, show W1 = (w.alloc (.deferred (some []))).alloc (.loop (rec .ready none)) from rfl, hrec]
  · simp only [resolve, hg]
    simp [go_sem]
  · simp [invoke, go_sem, eg]
  refine (callsIn_wide (n := 3 - 1)).2 ((hseq (w.heap.size + 1) (fun pre W => I pre W ∧ W.heap[w.heap.size + 1]? = some (.loop (rec .ready none)) ∧ W.heap[w.heap.size]? = some (.deferred (some []))) W1 hb1 ?_ ?_ ⟨hI1, hL1, hK1⟩).mono ?_)
  · rintro s X Y row ⟨h1, h2, h3⟩ hgr hr
    exact ⟨hI s X Y row h1 hgr (hfar hr), (hgr.block _ (Array.getElem?_eq_some_iff.1 h2).1 (fun e => by have := (hr _ e.symm).1; omega)).trans h2, (hgr.block _ (Array.getElem?_eq_some_iff.1 h3).1 (fun e => by have := (hr _ e.symm).1; omega)).trans h3⟩
  · rintro pre x W ⟨hi, hl, hk⟩ hx hsz
    have hy := run_yield (P := Tryz.prog) (args := encs x) hl (by rw [hrec]; exact hps x)
    rw [hrec] at hy
    refine ⟨fn, _, assign, body, hy, roundIn_of_wpIn trivial (hassign _ pre x W _ (by omega) hi hx ?_)⟩
    intro a' V hkf hkc hi' hx' hax
    have hl' := hkf.same _ _ (by omega) hl rfl
    have hk' := hkf.same _ _ (Nat.le_refl _) hk rfl
    have hlt : w.heap.size + 1 < V.heap.size := (Array.getElem?_eq_some_iff.1 hl').1
    refine ⟨_, run_beginRound hl' (by rw [hrec]), ?_⟩
    let V2 := V.putObj (w.heap.size + 1) (.loop { rec .ready none with state := .busy })
    have hl2 : V2.heap[w.heap.size + 1]? = some (.loop { rec .ready none with state := .busy }) := World.putObj_heap_same hlt
    have hk2 : V2.heap[w.heap.size]? = some (.deferred (some [])) := (World.putObj_heap_other (by omega)).trans hk'
    have c2 : Kc D (w.heap.size + 2) V V2 := Kc.put _ hl' rfl (by omega)
    have s2 : w.heap.size ≤ V2.heap.size := Nat.le_trans (by omega) c2.size
    refine wpIn_mono (hbody _ pre x a' V2 s2 (hI.putObj _ hi' (by omega) hl' rfl) (hHx.putObj _ hx' (by omega) hl' rfl) ((hAx a').putObj _ hax (by omega) hl' rfl)) ?_
    rintro e a3 W3 hp
    cases e with
    | normal =>
      obtain ⟨hk3, hc3, hi3⟩ := hp
      have hl3 := hk3.same _ _ (by omega) hl2 rfl
      have hend := run_endRound (P := Tryz.prog) none hl3
      refine ⟨_, _, hend, ?_⟩
      have hlt3 := (Array.getElem?_eq_some_iff.1 hl3).1
      have hre : ({ ({ rec .ready none with state := .busy } : Loop) with state := .ready, pending := none } : Loop) = rec .ready none := by rw [hrec]
      refine ⟨rfl, ⟨hI.putObj _ hi3 (by omega) hl3 rfl, ?_, (World.putObj_heap_other (by omega)).trans (hk3.same _ _ (Nat.le_refl _) hk2 rfl)⟩, ?_⟩
      · exact (World.putObj_heap_same hlt3).trans (by rw [hrec]; rfl)
      · rw [hW1s]
        exact ((hkc.trans c2).trans hc3).trans (Kc.put _ hl3 rfl (by omega))
    | ret => exact hp.elim
    | exit id => exact hp.elim
    | goto t => exact hp.elim
    | panic ch => exact hp.elim
    | outgrown => exact hp.elim
  · rintro e W2 ⟨⟨v, rfl⟩, xs, hS, hi, hl, hk⟩
    exact ⟨none, _, by have := run_endLoop (P := Tryz.prog) hl (by rw [hrec]; simp); rw [hrec] at this; exact this, hdone _ xs _ (Nat.le_refl _) hS (hI.putObj _ hi (by omega) hl rfl) ((World.putObj_heap_other (by omega)).trans hk)⟩
end Go.Proofs
namespace Go.Proofs
open Go.RowKit
section
variable {P : Program} {ops : Array Oper} {l0 n : Nat}
theorem tail_anyIn {m : Nat} {q : Option Nat} (hF : freeB ops m q = true) (hT : tailB ops m = true) {Q : Exit → Act → World → Prop} :
    ∀ (f k : Nat) (listed : Array Bool) (a : Act) (w : World), m ≤ k → k ≤ ops.size → ops.size - k ≤ f → ListedTo ops listed k → wpListIn (Fence.wide.inRound l0) n P ops Q (ops.toList.drop k) a w → wpAnyIn (Fence.wide.inRound l0) n P .any ops Q f listed a w := by
  intro f
  induction f with
  | zero =>
    intro k listed a w hm hk hf hl h
    have hks : k = ops.size := by omega
    subst hks
    refine ⟨List.eq_nil_iff_forall_not_mem.2 fun i hi => ?_, ?_⟩
    · obtain ⟨hu, o, ho, _⟩ := mem_ready.1 hi
      have := hl.yes i (Array.getElem?_eq_some_iff.1 ho).1
      rw [this] at hu; cases hu
    · rw [List.drop_eq_nil_of_le (by simp)] at h; exact h
  | succ f ih =>
    intro k listed a w hm hk hf hl h
    by_cases hks : k = ops.size
    · subst hks
      have hno : Region.ready .any ops listed = [] := List.eq_nil_iff_forall_not_mem.2 fun i hi => by
        obtain ⟨hu, o, ho, _⟩ := mem_ready.1 hi
        have := hl.yes i (Array.getElem?_eq_some_iff.1 ho).1
        rw [this] at hu; cases hu
      refine ⟨fun _ => ?_, by rw [hno]; exact fun _ hx => absurd hx List.not_mem_nil⟩
      rw [List.drop_eq_nil_of_le (by simp)] at h; exact h
    · have hlt : k < ops.size := by omega
      obtain ⟨ok, hok⟩ : ∃ ok, ops[k]? = some ok := ⟨_, Array.getElem?_eq_getElem hlt⟩
      have hkr : k ∈ Region.ready .any ops listed := mem_ready.2 ⟨hl.no k (Nat.le_refl _) hlt, ok, hok, fun e he hb => by
        have := (freeB_spec hF hok).back e he hb
        have h2 := hl.yes e.on this
        have h3 : e.on < listed.size := by rw [hl.size]; omega
        simp [h3] at h2 ⊢; exact h2⟩
      refine ⟨fun h0 => absurd hkr (by rw [h0]; exact List.not_mem_nil), fun i hi => ?_⟩
      have hik : i = k := by
        obtain ⟨hu, o, ho, hall⟩ := mem_ready.1 hi
        have hisz : i < ops.size := (Array.getElem?_eq_some_iff.1 ho).1
        have hge : k ≤ i := by
          refine Nat.le_of_not_lt fun h' => ?_
          rw [hl.yes i h'] at hu; cases hu
        refine Nat.le_antisymm (Nat.le_of_not_lt fun hgt => ?_) hge
        unfold tailB at hT
        simp only [Bool.or_eq_true, decide_eq_true_eq, Bool.and_eq_true] at hT
        rcases hT with hT | ⟨_, hc⟩
        · omega
        · have h1 := List.all_eq_true.1 hc i (List.mem_range.2 hisz)
          simp only [Bool.or_eq_true, decide_eq_true_eq] at h1
          rcases h1 with h1 | h1
          · omega
          · obtain ⟨o', ho', e, he, hb, hon⟩ := Region.waitsFor_spec h1
            have : o' = o := Option.some.inj (ho'.symm.trans ho)
            subst this
            have h2 := hall e he hb
            rw [hon, getD_both (hl.no (i - 1) (by omega) (by omega))] at h2
            cases h2
      subst hik
      have hd : ops.toList.drop i = ok :: ops.toList.drop (i + 1) := by
        rw [List.drop_eq_getElem_cons (by simpa using hlt)]
        congr 1
        simpa [Array.getElem?_eq_getElem hlt] using hok
      rw [hd] at h
      have step : ∀ a w, wpListIn (Fence.wide.inRound l0) n P ops Q (ops.toList.drop (i + 1)) a w → wpAnyIn (Fence.wide.inRound l0) n P .any ops Q f (listed.setIfInBounds i true) a w := fun a w hh =>
        ih (i + 1) _ a w (by omega) (by omega) (by omega) ⟨by simp [hl.size], fun j hj => by
          by_cases hji : j = i
          · subst hji; simp [hl.size, hlt]
          · rw [getD_set_ne true (Ne.symm hji)]; exact hl.yes j (by omega), fun j hj hjs => by
          rw [getD_set_ne true (by omega)]; exact hl.no j (by omega) hjs⟩ hh
      unfold Go.wpOpIn
      simp only [hok]
      simp only [wpListIn] at h
      split
      · rename_i hw
        rw [if_pos hw] at h
        exact Oper.wpIn_mono step h
      · rename_i hw
        rw [if_neg hw] at h
        exact ⟨h.1, step _ _ h.2⟩

theorem MkS.wpOpIn (hnd : noDefer ops.toList = true) {w : World} {i : Nat} {o : Oper} {s : Spec} {a b : Act} (hi : ops[i]? = some o) (hs : a.tmps.size = b.tmps.size)
    (he : execOp b.eval o = execOp a.eval o) (hw : Region.wanted o (yielded ops b.tmps) = Region.wanted o (yielded ops a.tmps)) (h : MkS P ops s o a w)
    {K : Act → World → Prop} {Q : Exit → Act → World → Prop} (hK : ∀ v w', s.holds v w' → Below w.heap.size w w' → K (b.put o.dst v) w') : Go.wpOpIn (Fence.wide.inRound l0) n P ops Q i K b w := by
  have h1 := h.wpOp (Q := fun _ _ _ => False) hi hs he hw hK
  have hd := noDefer_spec hnd (o := o) (by rw [Array.mem_toList_iff]; exact Array.mem_of_getElem? hi)
  unfold Go.wpOp at h1
  unfold Go.wpOpIn
  simp only [hi] at h1 ⊢
  split
  · rename_i hw2
    rw [if_pos hw2] at h1
    rcases h1 with h1 | ⟨_, _, _, h1⟩
    · exact Oper.wpIn_of_wp hd h1
    · exact h1.elim
  · rename_i hw2
    rw [if_neg hw2] at h1
    exact ⟨fun _ _ => trivial, h1⟩
theorem free_anySIn (hnd : noDefer ops.toList = true) {m : Nat} (hF : freeB ops m none = true) (hT : tailB ops m = true) {Q : Exit → Act → World → Prop} {a : Act} {w0 : World} (sp : Nat → Spec) (hst : ∀ i, i < m → (sp i).stable)
    (hN : ∀ i o, i < m → ops[i]? = some o → ∀ vs w, (∀ j x, (sp j).fix = some x → vs j = x) → Below w0.heap.size w0 w → (∀ j, j < i → waits o j = true → (sp j).holds (vs j) w) → MkS P ops (sp i) o (canon ops vs (fun j => decide (j < i)) a m) w)
    (hK : ∀ vs w, (∀ j x, (sp j).fix = some x → vs j = x) → Below w0.heap.size w0 w → (∀ j, j < m → (sp j).holds (vs j) w) → wpListIn (Fence.wide.inRound l0) n P ops Q (ops.toList.drop m) (canon ops vs (fun _ => true) a m) w) (hms : m ≤ ops.size) :
    ∀ (f : Nat) (listed : Array Bool) (vs : Nat → Value) (w : World), HeadInv .any ops m listed → (List.range m).countP (fun j => !selOf listed j) + (ops.size - m) ≤ f → (∀ j x, (sp j).fix = some x → vs j = x) →
      Below w0.heap.size w0 w → (∀ j, j < m → selOf listed j = true → (sp j).holds (vs j) w) → wpAnyIn (Fence.wide.inRound l0) n P .any ops Q f listed (canon ops vs (selOf listed) a m) w := by
  intro f
  induction f with
  | zero =>
    intro listed vs w inv hf hfx hB hq
    have hall : ∀ j, j < m → selOf listed j = true := fun j hj => by
      have h0 : (List.range m).countP (fun j => !selOf listed j) = 0 := by omega
      have := List.countP_eq_zero.1 h0 j (List.mem_range.2 hj)
      simpa using this
    rw [canon_congr (vs' := vs) (sel' := fun _ => true) m (fun j hj => ⟨hall j hj, fun _ => rfl⟩)]
    exact tail_anyIn hF hT 0 m listed _ w (Nat.le_refl _) hms (by omega) ⟨inv.size, hall, inv.tail⟩ (hK vs w hfx hB (fun j hj => hq j hj (hall j hj)))
  | succ f ih =>
    intro listed vs w inv hf hfx hB hq
    by_cases hall : ∀ j, j < m → selOf listed j = true
    · rw [canon_congr (vs' := vs) (sel' := fun _ => true) m (fun j hj => ⟨hall j hj, fun _ => rfl⟩)]
      exact tail_anyIn hF hT (f + 1) m listed _ w (Nat.le_refl _) hms (by omega) ⟨inv.size, hall, inv.tail⟩ (hK vs w hfx hB (fun j hj => hq j hj (hall j hj)))
    · have hex : ∃ j, j < m ∧ selOf listed j = false ∧ ∀ k, k < j → selOf listed k = true := by
        have h1 : ∃ j, j < m ∧ selOf listed j = false := by
          refine Classical.byContradiction fun hno => hall fun j hj => ?_
          cases hs : selOf listed j with
          | true => rfl
          | false => exact absurd ⟨j, hj, hs⟩ hno
        obtain ⟨j, hj⟩ := h1
        induction j using Nat.strongRecOn with
        | _ j ihj =>
          by_cases hk : ∀ k, k < j → selOf listed k = true
          · exact ⟨j, hj.1, hj.2, hk⟩
          · have : ∃ k, k < j ∧ selOf listed k = false := by
              refine Classical.byContradiction fun hno => hk fun k hk' => ?_
              cases hs : selOf listed k with
              | true => rfl
              | false => exact absurd ⟨k, hk', hs⟩ hno
            obtain ⟨k, hk1, hk2⟩ := this
            exact ihj k hk1 ⟨by omega, hk2⟩
      obtain ⟨j, hjm, hju, hjb⟩ := hex
      obtain ⟨oj, hoj⟩ : ∃ oj, ops[j]? = some oj := ⟨_, Array.getElem?_eq_getElem (by omega)⟩
      have hjr : j ∈ Region.ready .any ops listed := mem_ready.2 ⟨hju, oj, hoj, fun e he hb => by
        have h1 := (freeB_spec hF hoj).back e he hb
        have h2 := hjb e.on h1
        have h3 : e.on < listed.size := by rw [inv.size]; omega
        unfold selOf at h2
        simp [h3] at h2 ⊢; exact h2⟩
      refine ⟨fun h0 => absurd hjr (by rw [h0]; exact List.not_mem_nil), fun i hi => ?_⟩
      obtain ⟨hu, o, ho, hafter⟩ := mem_ready.1 hi
      have hisz : i < ops.size := (Array.getElem?_eq_some_iff.1 ho).1
      have him : i < m := by
        unfold tailB at hT
        simp only [Bool.or_eq_true, decide_eq_true_eq, Bool.and_eq_true] at hT
        rcases hT with hT | ⟨⟨hlt, hs⟩, hc⟩
        · omega
        · exact Nat.lt_of_not_le fun hge => tail_waits hs hc hlt inv _ j rfl hjm hju i hge hi
      have hF' := freeB_spec hF ho
      have hdst : dstOf ops i = o.dst := by simp [dstOf, ho]
      have hdis : ∀ k, k < m → k ≠ i → ∀ d, dstOf ops k = some d → dstOf ops i ≠ some d := fun k hk hne d hd => by
        rw [hdst]; exact (hF'.apart him k hk hne d hd).1
      have hsel' : selOf (listed.setIfInBounds i true) = fun k => selOf listed k || k == i := by
        funext k
        unfold selOf
        by_cases hki : k = i
        · subst hki
          have : k < listed.size := by rw [inv.size]; exact hisz
          simp [this]
        · rw [getD_set_ne true (Ne.symm hki)]
          simp [hki]
      have hcount : (List.range m).countP (fun k => !selOf (listed.setIfInBounds i true) k) < (List.range m).countP (fun k => !selOf listed k) := by
        refine countP_lt (x := i) (List.mem_range.2 him) (fun y hy => ?_) (by simp [selOf, hu]) (by rw [hsel']; simp)
        rw [hsel'] at hy
        simp at hy
        simp [hy.1]
      have hsz : ∀ vs' sel', (canon ops vs' sel' a m).tmps.size = a.tmps.size := fun vs' sel' => (canon_size m).1
      have hev := looks_eval (vs := vs) (vs' := vs) (a := a) hF ho him inv hms hi (fun k _ => rfl)
      have hsame : (fun j => decide (j < i) && (none : Option Nat) != some j) = fun j => decide (j < i) := by funext j; simp
      rw [hsame] at hev
      obtain ⟨he, hw⟩ := getLooks (ops := ops) (o := o) hF'.sel (by rw [hsz, hsz]) hev
      refine (hN i o him ho vs w hfx hB (fun j hj hwt => ?_)).wpOpIn hnd ho (by rw [hsz, hsz]) he hw (fun v w' hv hb => ?_)
      · obtain ⟨e, he', hb', hon⟩ := waits_spec hwt
        have h5 := hafter e he' hb'
        rw [hon] at h5
        have hjs : j < listed.size := by rw [inv.size]; omega
        refine hq j (by omega) ?_
        unfold selOf
        simp [hjs] at h5 ⊢; exact h5
      · have e1 : canon ops vs (selOf listed) a m = canon ops (fun k => if k = i then v else vs k) (selOf listed) a m :=
          canon_congr m (fun k hk => ⟨rfl, fun hs => by
            have : k ≠ i := fun h' => by subst h'; unfold selOf at hs; rw [hu] at hs; cases hs
            simp [this]⟩)
        have e2 : (canon ops vs (selOf listed) a m).put o.dst v = canon ops (fun k => if k = i then v else vs k) (selOf (listed.setIfInBounds i true)) a m := by
          rw [hsel', canon_put hu m him hdis, e1, hdst]
          simp
        rw [e2]
        refine ih _ _ w' (inv.set hi him) (by omega) (fun k x hk => ?_) (hB.trans (hb.mono hB.size)) (fun k hk hs => ?_)
        · by_cases hki : k = i
          · subst hki; simp only [if_true]; exact Spec.holds_fix hk hv
          · simp only [if_neg hki]; exact hfx k x hk
        · by_cases hki : k = i
          · subst hki; simp only [if_true]; exact hv
          · simp only [if_neg hki]
            have hk2 : selOf listed k = true := by
              rw [hsel'] at hs
              simpa [hki] using hs
            exact Spec.keep (hst k hk) (hq k hk hk2) hb

end
section
variable {P : Program} {l : List Oper} {Q : Exit → Act → World → Prop} {a : Act} {w : World} {l0 n : Nat}
theorem any_looseIn (hnd : noDefer l = true) {m : Nat} (S : List Spec) (hF : freeB l.toArray m none = true) (hT : tailB l.toArray m = true) (hms : m ≤ l.length) (hSm : S.length = m)
    (h : OblS P l.toArray w 0 S (l.take m) a [] (fun a' H => ∀ w', Below w.heap.size w w' → (∀ p ∈ H, p.2 w') → wpListIn (Fence.wide.inRound l0) n P l.toArray Q (l.drop m) a' w')) :
    wpAnyIn (Fence.wide.inRound l0) n P .any l.toArray Q l.toArray.size (Array.replicate l.toArray.size false) a { w with drawn := w.drawn + 1 } := by
  obtain ⟨sp, hsp⟩ : ∃ sp : Nat → Spec, sp = fun j => S.getD j (.v undef) := ⟨_, rfl⟩
  obtain ⟨vs0, hvs0⟩ : ∃ vs0 : Nat → Value, vs0 = fun j => ((sp j).fix).getD undef := ⟨_, rfl⟩
  have hfx0 : ∀ j x, (sp j).fix = some x → vs0 j = x := fun j x hj => by rw [hvs0]; simp only [hj, Option.getD_some]
  have key := fun (vs : Nat → Value) (hfx : ∀ j x, (sp j).fix = some x → vs j = x) => OblS.all (P := P) (ops := l.toArray) (a0 := a) sp vs hfx S (l.take m) 0 [] (fun j s hj => by rw [hsp]; simp [hj])
    (fun j o hj => by
      have hjm : j < m := by have := (List.getElem?_eq_some_iff.1 hj).1; simp at this; omega
      simp only [List.getElem?_take, hjm, if_true] at hj
      simpa using hj) (fun p hp => absurd hp List.not_mem_nil) h
  have hlen : (l.take m).length = m := by simp; omega
  have hcut := fun (vs : Nat → Value) i (hi : i ≤ m) => canon_cut (ops := l.toArray) (vs := vs) (s := fun _ => true) (a := a) m hi
  have e0 : a = canon l.toArray vs0 (selOf (Array.replicate l.toArray.size false)) a m := by
    have e1 : canon l.toArray vs0 (selOf (Array.replicate l.toArray.size false)) a m = canon l.toArray vs0 (fun j => decide (j < 0) && true) a m :=
      canon_congr m (fun j hj => ⟨by simp [selOf, show j < l.length by omega], fun _ => rfl⟩)
    rw [e1, hcut vs0 0 (by omega)]; rfl
  have := free_anySIn (l0 := l0) (n := n) (P := P) (ops := l.toArray) (m := m) (by simpa using hnd) hF hT (Q := Q) (a := a) (w0 := w) sp
    (fun i hi => by
      have ho : ∃ o, l.toArray[i]? = some o := ⟨_, Array.getElem?_eq_getElem (by simp; omega)⟩
      obtain ⟨o, ho⟩ := ho
      exact ((key vs0 hfx0).1 i o (by omega) (by rw [hlen]; omega) ho).1)
    (fun i o hi ho vs w' hfx hB hw => by
      have := ((key vs hfx).1 i o (by omega) (by rw [hlen]; omega) ho).2 w' hB hw
      rw [← hcut vs i (by omega)] at this
      simpa using this)
    (fun vs w' hfx hB hw => by
      obtain ⟨H', k2, k3⟩ := (key vs hfx).2.2
      rw [hlen, Nat.zero_add] at k3
      simpa using k3 w' hB (fun p hp => by
        obtain ⟨j, R, rfl, e2, e3⟩ := k2 p hp
        have := hw j (by rw [hlen] at e2; omega)
        rw [e3] at this; exact this)) (by simpa using hms)
    l.toArray.size (Array.replicate l.toArray.size false) vs0 { w with drawn := w.drawn + 1 } (head0 m)
    (by have := count_le (p := fun j => !selOf (Array.replicate l.toArray.size false) j) m; simp only [List.size_toArray] at *; omega) hfx0 (Below.refl _ w).drew
    (fun j hj hs => by simp [selOf, show j < l.length by omega] at hs)
  rw [← e0] at this
  exact this

/-- The same in a round. -/
theorem wpIn_loose {id : Nat} (m : Nat) (S : List Spec) (hnd : noDefer l = true) (hm : P.follows .mixedOrders = true) (hF : freeB l.toArray m none = true) (hT : tailB l.toArray m = true) (hms : m ≤ l.length) (hSm : S.length = m)
    (h : ∀ K : Act → Hyps → Prop, (∀ a' H, (∀ w', Below w.heap.size w w' → (∀ p ∈ H, p.2 w') → wpListIn (Fence.wide.inRound l0) n P l.toArray Q (l.drop m) a' w') → K a' H) → OblS P l.toArray w 0 S (l.take m) a [] K) : (Code.region id l.toArray true).wpIn (Fence.wide.inRound l0) n P Q a w :=
  wpIn_region_any hm (any_looseIn hnd S hF hT hms hSm (h _ fun _ _ h => h))
end
end Go.Proofs
namespace Go.Proofs
open Go.RowKit Go.Shelf
attribute [local go_sem] Oper.semAt_some
attribute [local go_sem ↓] Go.wp_at_zero Go.wp_at_succ

section
variable {D : Nat → Prop} {L : Nat} {W W' : World}
theorem Kc.has (h : Kc D L W W') {g : Nat} {t : TypeId} {cs : Array Value} (hg : Has W g t cs) (hk : D g ∨ L ≤ g) : Has W' g t cs := h.same g cs t (0, 0) hk hg
theorem Kc.cell (h : Kc D L W W') {b o : Nat} {v : Value} (hk : D b ∨ L ≤ b) (hc : W.cell? ⟨b, o, none⟩ = some v) : W'.cell? ⟨b, o, none⟩ = some v := by
  obtain ⟨ob, h1, h2⟩ := cells_of_cell hc
  cases ob with
  | cells cs t fr => exact (World.cell?_of_block (a := ⟨b, o, none⟩) ((h.same b cs t fr hk h1).trans h1.symm)).trans hc
  | _ => simp [Obj.isCells] at h2
/-- A slice that lies in a named block or from L on. -/
def Rk (D : Nat → Prop) (L : Nat) (R : Option Addr) : Prop := ∀ a, R = some a → D a.block ∨ L ≤ a.block
theorem Kc.sl {α : Type} {f : α → List Value} {sz n : Nat} {A : Option Addr} {xs : List α} (h : Kc D L W W') (hA : 0 < n → Rk D L A) (hs : SlOf f sz W A n xs) : SlOf f sz W' A n xs :=
  ⟨hs.1, hs.2.1, fun hn => by
    obtain ⟨b, o, e, hc⟩ := hs.2.2 hn
    exact ⟨b, o, e, fun j u hu => h.cell (hA hn _ e) (hc j u hu)⟩⟩
theorem Kc.own {α : Type} {e : El α} {base : Nat} {v : Value} {xs : List α} (h : Kc D L W W') (hb : L ≤ base) (ho : Own e base v xs W) : Own e base v xs W' := by
  refine ⟨ho.1, ?_⟩
  rcases ho.2 with h1 | ⟨g, cap, cur, e1, e2, e3, e4⟩
  · exact .inl h1
  · exact .inr ⟨g, cap, cur, e1, e2, h.same g cur _ (0, 0) (.inr (Nat.le_trans hb e2)) e3, e4⟩
end
theorem SlOf.drop {α : Type} {f : α → List Value} {sz : Nat} (hf : ∀ x, (f x).length = sz) {W : World} {A : Option Addr} {n c l : Nat} {xs : List α} (h : SlOf f sz W A n xs) (hl : l ≤ n) (hc : n ≤ c) :
    SlOf f sz W (if c = l then A else A.map (·.add (l * sz))) (n - l) (xs.drop l) := by
  refine ⟨by rw [List.length_drop, h.1], by rw [flat_len hf, List.length_drop, h.1], fun hn => ?_⟩
  obtain ⟨b, o, e, hx⟩ := h.2.2 (by omega)
  subst e
  rw [if_neg (by omega)]
  have hadd : (⟨b, o, none⟩ : Addr).add (l * sz) = ⟨b, o + l * sz, none⟩ := by unfold Addr.add; split <;> simp_all
  refine ⟨b, o + l * sz, by simp [hadd], fun j u hu => ?_⟩
  rw [Nat.add_assoc]
  refine hx _ _ ?_
  have e2 : flat f xs = flat f (xs.take l) ++ flat f (xs.drop l) := by rw [← flat_append, List.take_append_drop]
  rw [e2, List.getElem?_append_right (by rw [flat_len hf, List.length_take, h.1]; have := Nat.mul_le_mul_right sz (show min l n ≤ l by omega); omega), flat_len hf, List.length_take, h.1, Nat.min_eq_left hl]
  rw [show l * sz + j - l * sz = j by omega]; exact hu
theorem Rk.drop {D : Nat → Prop} {L : Nat} {A : Option Addr} {c l k : Nat} (h : Rk D L A) : Rk D L (if c = l then A else A.map (·.add k)) := by
  intro a ha
  split at ha
  · exact h a ha
  · obtain ⟨x, rfl, rfl⟩ := Option.map_eq_some_iff.1 ha
    have : (x.add k).block = x.block := by unfold Addr.add; split <;> rfl
    rw [this]; exact h x rfl

/-- A list as it lies in memory. -/
structure Ls where
  (A : Option Addr) (n c : Nat) (xs : List Int)
def lsC (x : Ls) : Array Value := #[.slice x.A x.n x.c]
def Ls.Ok (x : Ls) (w : World) : Prop := Own eI 0 (.slice x.A x.n x.c) x.xs w ∧ x.n = x.xs.length

set_option maxRecDepth 100000 in
set_option maxHeartbeats 4000000 in
theorem ext_c (P : List Int → Prop) (D : Nat → Prop) (l Y E L : Nat) (J : List Ls → World → Prop) (HG : ∀ pre W1 W2, J pre W1 → Below W1.heap.size W1 W2 → J pre W2)
    (HYd : ∀ pre x W1, J pre W1 → Ls.Ok x W1 → P x.xs → L ≤ W1.heap.size → YieldAt Fence.wide 1 Tryz.prog l (lsC x) W1 fun e W' => e = .returned (.bool true) ∧ J (pre ++ [x]) W' ∧ Kc D L W1 W') (hY : L ≤ Y) (hE : L ≤ E) :
    ∀ (m : Nat) (rest : List Int) (R : Option Addr) (rn rc : Nat) (A : Option Addr) (n c : Nat) (xs : List Int) (pre : List Ls) (W : World), rest.length = m → L ≤ W.heap.size → J pre W → Has W Y 164 #[.func (.yield l) #[] #[]] →
      Has W E 34 #[.func (.func 172) #[] #[.pointer (some ⟨Y, 0, none⟩), .pointer (some ⟨E, 0, none⟩)]] → Own eI L (.slice A n c) xs W → n = xs.length → xs.length + rest.length ≤ 100 → rn ≤ rc → SlOf inC 1 W R rn rest → (0 < rn → Rk D L R) → (∀ y ∈ xs :: moreL xs rest, P y) →
      Calls Tryz.prog 172 #[.slice A n c, .slice R rn rc, .pointer (some ⟨Y, 0, none⟩), .pointer (some ⟨E, 0, none⟩)] W fun e W' => e = .returned (.bool true) ∧ ∃ ys : List Ls, ys.map Ls.xs = xs :: moreL xs rest ∧ J (pre ++ ys) W' ∧ Kc D L W W' := by
  intro m
  induction m using Nat.strongRecOn with
  | _ m ih =>
    intro rest R rn rc A n c xs pre W hm hL hJ hHY hHE hO hn hlen hrc hS hR hP
    have HP := Lib.hid hP
    subst hn
    have IH := Lib.hid ih
    clear ih
    have hrl : rest.length = rn := hS.1
    have HS := Lib.hid hS; have HR := Lib.hid hR; have HO := Lib.hid hO; have HFY := Lib.hid hHY; have HFE := Lib.hid hHE; have HRL := Lib.hid hrl; have HLn := Lib.hid hlen; have HLL := Lib.hid hL; have HM := Lib.hid hm
    have cy := hHY.cell
    have HGr := Lib.hid HG
    have HYr := Lib.hid (HYd pre ⟨A, xs.length, c, xs⟩ W hJ ⟨hO.lower (Nat.zero_le _), rfl⟩ (hP _ (List.mem_cons_self ..)) hL)
    clear hJ hHY hHE hO hS hR hrl hlen hm HG HYd hP
    refine callsIn_wide.1 (callsIn_of_wp (n := 2) Tryz.func172 rfl trivial ?_ rfl)
    simp only [Tryz.ntmps172, List.size_toArray, List.length_cons, List.length_nil, Nat.reduceAdd, Nat.reduceSub, Array.replicate_succ, Array.replicate_zero, List.push_toArray, List.append_toArray, List.nil_append, List.cons_append]
    obtain ⟨fn, tmps, assign, body, hy, hR⟩ := HYr.out
    simp only [lsC] at hy hR
    gi_wp2
    refine hR.mono ?_
    rintro e W3 ⟨rfl, hJ3, hk3⟩
    have HJ3 := Lib.hid hJ3; have HK3 := Lib.hid hk3
    clear hJ3 hk3 hy hR cy
    gi_wp2
    refine wpIn_wide.2 ?_
    have F3Y := Lib.hid (HK3.out.has HFY.out (.inr hY)); have F3E := Lib.hid (HK3.out.has HFE.out (.inr hE))
    go_loopw [15] (fun v wr => ∃ (k : Nat) (ys : List Ls), k ≤ rn ∧ v = .int .i64 k ∧ ys.map Ls.xs ++ moreL xs (rest.drop k) = xs :: moreL xs rest ∧ J (pre ++ ys) wr ∧ Kc D L W wr) (fun v _ => rn - (intOf v).toNat)
    case atStart => exact ⟨0, [⟨A, xs.length, c, xs⟩], by omega, rfl, by simp, HJ3.out, HK3.out⟩
    case round =>
      obtain ⟨k, ys, hk, rfl, hys, hJ, hK⟩ := hrel
      have HJ := Lib.hid hJ; have HK := Lib.hid hK; have HYs := Lib.hid hys
      have HYw := Lib.hid (hK.has HFY.out (.inr hY)); have HEw := Lib.hid (hK.has HFE.out (.inr hE)); have HSw := Lib.hid (hK.sl HR.out HS.out); have HOw := Lib.hid (hK.own (Nat.le_refl _) HO.out)
      have hLw : L ≤ wr.heap.size := Nat.le_trans HLL.out hK.size
      clear hJ hK hys HK3 HJ3 F3Y F3E
      by_cases hkn : k < rn
      · have hkl : k < rest.length := by rw [HRL.out]; exact hkn
        obtain ⟨b, o, he⟩ := HSw.out.addr (by omega)
        have hx := List.getElem?_eq_getElem hkl
        have HD := Lib.hid (moreL_drop xs rest k hkl)
        obtain ⟨x, hxx⟩ : ∃ x, x = rest[k] := ⟨_, rfl⟩
        rw [← hxx] at hx HD
        have hc : wr.cell? ⟨b, o + k, none⟩ = some (.int .i64 x) := by
          have h1 := HSw.out
          rw [he] at h1
          have := h1.range inC_len hx 0 _ rfl; simpa using this
        have HW := Lib.hid fun (w' : World) (hb : Below wr.heap.size wr w') => with_c A xs.length c xs x (by have := HLn.out; omega) w' (Own.toSl (HOw.out.keep hb) rfl)
        have hce := HEw.out.cell
        have HSd := Lib.hid (HSw.out.drop inC_len (l := k + 1) (by omega) hrc)
        have HRd := Lib.hid fun (h : 0 < rn - (k + 1)) => (HR.out (by omega)).drop (c := rc) (l := k + 1) (k := (k + 1) * 1)
        have hlt : (rest.drop (k + 1)).length < m := by
          have h1 := HM.out
          clear HM IH HYr HGr
          rw [List.length_drop, ← h1]; exact Nat.sub_lt (by omega) (by omega)
        have HIH := Lib.hid fun (A' : Option Addr) (n' c' : Nat) (pre' : List Ls) (W' : World) => IH.out (rest.drop (k + 1)).length hlt (rest.drop (k + 1)) (if rc = k + 1 then R else R.map (·.add ((k + 1) * 1))) (rn - (k + 1)) (rc - (k + 1)) A' n' c' (xs ++ [x]) pre' W' rfl
        have HCl := Lib.hid hce
        have hb100 : rn ≤ 100 := by have := HLn.out; have := HRL.out; omega
        have e1 : IntKind.i64.wrap ((k : Int) + 1) = ((k + 1 : Nat) : Int) := by rw [IntKind.wrap_i64]; omega
        have z1 : ((k + 1 : Nat) : Int) ≤ (rn : Int) := by omega
        clear hx hxx hce
        subst he
        go_wp2
        apply wp_loose 8 [.v _, .v _, .v _, .r (fun v w' => Own eI L v (xs ++ [x]) w'), .v _, .v _, .v _, .v _] (by kernel_rfl) (by kernel_rfl) (by kernel_rfl) (by decide) rfl
        intro K hK
        apply OblS.val rfl
        · intro w' hb _; have := (HEw.out.after hb).cell; go_simp; rfl
        apply OblS.val rfl
        · intro w' hb _; go_simp; rfl
        apply OblS.val rfl
        · intro w' hb _; go_simp; rfl
        apply OblS.callR 173
        · intro v w1 w2 h hb; exact h.keep hb
        · rfl
        · intro w' hb _
          apply Exists.intro; apply And.intro; (go_simp; rfl); refine (HW.out w' hb).mono ?_
          rintro e w2 ⟨v, rfl, ho, hb2⟩
          exact ⟨v, rfl, ho.lower (Nat.le_trans hLw hb.size), hb2⟩
        intro v3
        apply OblS.val rfl
        · intro w' hb _; go_simp; rfl
        apply OblS.val rfl
        · intro w' hb _; go_simp; rfl
        apply OblS.val (v := .int .i64 ((k + 1 : Nat) : Int)) rfl
        · intro w' hb _; go_simp
        apply OblS.val (v := .slice (if rc = k + 1 then some ⟨b, o, none⟩ else some ⟨b, o + (k + 1), none⟩) (rn - (k + 1)) (rc - (k + 1))) rfl
        · intro w' hb _; have z0 : 0 ≤ (k : Int) + 1 := by omega
          have z2 : (k : Int) + 1 ≤ (rn : Int) := by omega
          go_simp
        apply OblS.nil
        apply hK
        intro w2 hb hH
        have HO3 := Lib.hid (hH _ (List.mem_cons_self ..))
        clear hH hK K
        simp only [Act.put, List.setIfInBounds_toArray, List.set_cons_zero, List.set_cons_succ, List.drop_succ_cons, List.drop_zero]
        obtain ⟨A3, c3, rfl, _, _⟩ := Own.sl HO3.out
        have HC := Lib.hid (HIH.out A3 (xs ++ [x]).length c3 (pre ++ ys) w2 (Nat.le_trans hLw hb.size) (HGr.out _ _ _ HJ.out hb) (HYw.out.after hb) (HEw.out.after hb) HO3.out rfl (by
          have := HLn.out
          rw [List.length_append, List.length_drop]; simp; omega) (by omega) (HSd.out.keep hb) HRd.out (fun y hy => HP.out y (by
          rw [← HYs.out, HD.out]
          exact List.mem_append_right _ (List.mem_append_left _ hy))))
        have HB2 := Lib.hid hb
        have hadd : (⟨b, o, none⟩ : Addr).add ((k + 1) * 1) = ⟨b, o + (k + 1), none⟩ := by unfold Addr.add; split <;> simp_all
        simp only [Option.map_some, hadd, List.length_append, List.length_cons, List.length_nil, Nat.zero_add] at HC
        clear hadd
        clear hb
        go_wp2_with (go_at_call 172; refine HC.out.mono ?_; rintro e w4 ⟨rfl, zs, hz1, hz2, hz3⟩; have HZ1 := Lib.hid hz1; have HZ2 := Lib.hid hz2; have HZ3 := Lib.hid hz3; clear hz1 hz2 hz3)
        go_roundw
        case rel => exact ⟨k + 1, ys ++ zs, by omega, by go_num, by rw [List.map_append, HZ1.out, ← HYs.out, HD.out]; simp, by rw [← List.append_assoc]; exact HZ2.out, (HK.out.trans (Kc.below HB2.out)).trans HZ3.out⟩
        case measure => simp [intOf]; omega
      · have hke : k = rn := by omega
        subst hke
        have HE := Lib.hid (show ys.map Ls.xs = xs :: moreL xs rest by
          have := HYs.out
          rw [List.drop_eq_nil_of_le (by rw [HRL.out]; exact Nat.le_refl _)] at this
          simpa [moreL] using this)
        go_wp2
        gi_wp2
        exact bodyPost_ret (results_tmp rfl _ _ _) rfl ⟨rfl, ys, HE.out, HJ.out, HK.out⟩
end Go.Proofs
namespace Go.Proofs
open Go.RowKit Go.Shelf
attribute [local go_sem] Oper.semAt_some
attribute [local go_sem ↓] Go.wp_at_zero Go.wp_at_succ

theorem lists_c (A : Option Addr) (n c : Nat) (w : World) :
    Calls Tryz.prog 146 #[.slice A n c] w fun e w' => e = .returned (.func (.func 171) #[] #[.pointer (some ⟨w.heap.size, 0, none⟩)]) ∧ w' = w.alloc (.cells #[.slice A n c] 30) := by
  go_enter Tryz.func146, Tryz.ntmps146
  go_wp2
  exact bodyPost_ret (results_tmp rfl _ _ _) rfl ⟨rfl, rfl⟩

set_option maxRecDepth 100000 in
set_option maxHeartbeats 4000000 in
/-- What 'lists' hands back gives all lists, in order. -/
theorem lists_sq (g : Nat) (A : Option Addr) (n c : Nat) (ns : List Int) (hn : ns.length ≤ 100) (hc : n ≤ c) (w : World) (hs : SlOf inC 1 w A n ns) (hg : Has w g 30 #[.slice A n c]) (D : Nat → Prop) (hD : ∀ a, A = some a → D a.block) :
    Sq 171 #[.pointer (some ⟨g, 0, none⟩)] lsC (fun x W => x.Ok W ∧ x.xs ∈ listsL ns) (fun ys => ys.map Ls.xs = listsL ns) D w := by
  intro l J W hW hJ hY h0
  have HGr := Lib.hid fun (pre : List Ls) (W1 W2 : World) (hj : J pre W1) (hb : Below W1.heap.size W1 W2) => hJ pre W1 W2 none hj ⟨hb.os, hb.tape, hb.output, hb.size, fun i hi _ => hb.block i hi⟩ (fun r e => by cases e)
  have HRk := Lib.hid (show 0 < n → Rk D W.heap.size A from fun _ a ha => .inl (hD a ha))
  have HS := Lib.hid (hs.keep hW)
  have hgW := hg.after hW
  have gl := hgW.cell
  have HN := Lib.hid hn
  have FY := Lib.hid ((Has.new W 164 #[.func (.yield l) #[] #[]]).alloc (.cells #[.func (.func 172) #[] #[.pointer (some ⟨W.heap.size, 0, none⟩), .pointer (some ⟨W.heap.size + 1, 0, none⟩)]] 34))
  have FE := Lib.hid (Has.new' (W.alloc (.cells #[.func (.yield l) #[] #[]] 164)) 34 #[.func (.func 172) #[] #[.pointer (some ⟨W.heap.size, 0, none⟩), .pointer (some ⟨W.heap.size + 1, 0, none⟩)]] (g := W.heap.size + 1) (by simp))
  have BW := Lib.hid (newB (newB (Below.refl W.heap.size W) (.cells #[.func (.yield l) #[] #[]] 164)) (.cells #[.func (.func 172) #[] #[.pointer (some ⟨W.heap.size, 0, none⟩), .pointer (some ⟨W.heap.size + 1, 0, none⟩)]] 34))
  have glt := hgW.lt
  have gne : g ≠ W.heap.size + 1 := by omega
  have hmf : ∀ (fn : Fn) (first cap : Array Value) (w : World), (Instr.makeFunc fn first cap).run Tryz.prog w = .ok (.func fn first cap) w := fun _ _ _ _ => rfl
  have HX := Lib.hid fun (W2 : World) (hb : Below W.heap.size W W2) (fy : Has W2 W.heap.size 164 #[.func (.yield l) #[] #[]]) (fe : Has W2 (W.heap.size + 1) 34 #[.func (.func 172) #[] #[.pointer (some ⟨W.heap.size, 0, none⟩), .pointer (some ⟨W.heap.size + 1, 0, none⟩)]]) =>
    ext_c (fun y => y ∈ listsL ns) D l W.heap.size (W.heap.size + 1) W.heap.size J HGr.out (fun pre x W1 hj hx hp hl => hY pre x W1 hj ⟨hx, hp⟩ hl) (Nat.le_refl _) (by omega) ns.length ns A n c none 0 0 [] [] W2 rfl hb.size (HGr.out _ _ _ h0 hb) fy fe (Own.nil _ _ _) rfl (by simpa using HN.out) hc (HS.out.keep hb) HRk.out (fun y hy => hy)
  clear hs hg hW hJ hY h0 hn hc
  go_enter Tryz.func171, Tryz.ntmps171
  go_wp2_with (go_at_call 172; refine (HX.out _ BW.out FY.out FE.out).mono ?_; rintro e W3 ⟨rfl, ys, hy1, hy2, hy3⟩; have HY1 := Lib.hid hy1; have HY2 := Lib.hid hy2; clear hy1 hy2 hy3)
  go_end0
  refine ⟨⟨_, rfl⟩, ys, ?_, ?_⟩
  · exact HY1.out
  · simpa using HY2.out
end Go.Proofs
namespace Go.Proofs
open Go.RowKit Go.Shelf
attribute [local go_sem] Oper.semAt_some
attribute [local go_sem ↓] Go.wp_at_zero Go.wp_at_succ

theorem keeps_set {B : Nat} (W : World) (p : Addr) (hp : p.block < B) (u : Value) : KeepsFrom B W (W.setCell p u) :=
  ⟨by simp, fun k o hk ho _ => (Below.heap_setCell W p u k (by omega)).trans ho⟩
theorem keeps_below {B : Nat} {W W' : World} (h : Below W.heap.size W W') : KeepsFrom B W W' := ⟨h.size, fun k _ _ ho _ => (h.block k (Array.getElem?_eq_some_iff.1 ho).1).trans ho⟩
theorem own_has {β : Type} {B g : Nat} {t : TypeId} {cs : Array Value} : OwnFrom B (fun (_ : β) W => Has W g t cs) := fun _ W W' row hs hg hr => by
  refine (hg.block g hs.lt (fun e => ?_)).trans hs
  obtain ⟨_, o, ho, hc⟩ := hr g e.symm
  unfold Has at hs; rw [hs] at ho; cases ho; cases hc
theorem own_own {α : Type} {e : El α} {base B : Nat} {v : Value} {xs : List α} {W W' : World} {row : Option Nat} (h : Own e base v xs W) (hg : W.grownBy W' row) (hr : ∀ r, row = some r → B ≤ r ∧ ∃ o : Obj, W.heap[r]? = some o ∧ o.isCells = false) : Own e base v xs W' := by
  refine ⟨h.1, ?_⟩
  rcases h.2 with h1 | ⟨g, cap, cur, e1, e2, e3, e4⟩
  · exact .inl h1
  · exact .inr ⟨g, cap, cur, e1, e2, own_has (β := Unit) (B := B) () W W' row e3 hg hr, e4⟩
theorem below_own {w W W' : World} {B : Nat} {row : Option Nat} (h : Below w.heap.size w W) (hB : w.heap.size ≤ B) (hg : W.grownBy W' row) (hr : ∀ r, row = some r → B ≤ r ∧ ∃ o : Obj, W.heap[r]? = some o ∧ o.isCells = false) : Below w.heap.size w W' :=
  h.trans (below_grown hg (fun r e => by have := (hr r e).1; omega) h.size)

theorem leaves_marks {F : Fence} {n : Nat} {P : Program} {fn : Func} {tmps : Array Value} {R : Ending → World → Prop} : ∀ (Ds : List Nat) (w : World), Ds.Nodup → (∀ D ∈ Ds, w.heap[D]? = some (.deferred (some []))) →
    (∀ w', w'.heap.size = w.heap.size → w'.os = w.os → w'.tape = w.tape → w'.output = w.output → (∀ k, k ∉ Ds → w'.heap[k]? = w.heap[k]?) → LeavesIn F n P fn tmps R [] .returning w') →
    LeavesInM F n P fn tmps R (Ds.map (fun D => { target := .collected D, args := #[] })) .returning w
  | [], w, _, _, h => h w rfl rfl rfl rfl (fun _ _ => rfl)
  | D :: Ds, w, hn, hD, h => by
    obtain ⟨h1, h2⟩ := List.nodup_cons.1 hn
    refine ⟨by simp, .inl ⟨D, _, rfl, run_takeDeferred (hD D (by simp)), ?_⟩⟩
    refine leaves_marks Ds _ h2 (fun D' hD' => ?_) (fun w' e1 e2 e3 e4 e5 => h w' (by rw [e1]; simp [World.putObj]) e2 e3 e4 (fun k hk => ?_))
    · rw [World.putObj_heap_other (fun e => h1 (by rw [← e]; exact hD'))]
      exact hD D' (by simp [hD'])
    · rw [e5 k (fun hk' => hk (by simp [hk'])), World.putObj_heap_other (fun e => hk (by simp [e]))]

def inE (x : Int) : Array Value := #[.int .i64 x]
def bestIV (o : Option Int) : Value := .tuple #[.int .i64 (o.getD 0), .bool o.isSome]

set_option maxRecDepth 100000 in
set_option maxHeartbeats 4000000 in
theorem bestI_c (gf : FuncId) (lb : Array Value) (ef : ∀ args w, (callFunc gf args).run Tryz.prog w = .ok (.enter gf args) w) (gl : FuncId) (lt : Int → Int → Bool) (egl : ∀ args w, (callFunc gl args).run Tryz.prog w = .ok (.enter gl args) w)
    (hless : ∀ (a b : Int) (w : World), Calls Tryz.prog gl #[.int .i64 a, .int .i64 b] w fun e w' => e = .returned (.bool (lt a b)) ∧ Below w.heap.size w w') (L : List Int) (w : World) (D : Nat → Prop) (hD : ∀ k, D k → k < w.heap.size) (hseq : Sq gf lb inE (fun _ _ => True) (fun ys => ys = L) D w) :
    Calls Tryz.prog 141 #[.func (.func gf) #[] lb, .func (.func gl) #[] #[]] w fun e w' => e = .returned (bestIV (bestL lt L)) ∧ Below w.heap.size w w' := by
  have HLess := Lib.hid hless; have HSeq := Lib.hid hseq
  clear hless hseq
  have B4 := Lib.hid (newB (newB (newB (Below.refl w.heap.size w) (.cells #[.func (.func gl) #[] #[]] 52)) (.cells #[.int .i64 0] 3)) (.cells #[.bool false] 4))
  have F3 := Lib.hid (((Has.new w 52 #[.func (.func gl) #[] #[]]).alloc (.cells #[.int .i64 0] 3)).alloc (.cells #[.bool false] 4))
  have F6 := Lib.hid ((Has.new' (w.alloc (.cells #[.func (.func gl) #[] #[]] 52)) 3 #[.int .i64 0] (g := w.heap.size + 1) (by simp)).alloc (.cells #[.bool false] 4))
  have F7 := Lib.hid (Has.new' ((w.alloc (.cells #[.func (.func gl) #[] #[]] 52)).alloc (.cells #[.int .i64 0] 3)) 4 #[.bool false] (g := w.heap.size + 1 + 1) (by simp))
  have hsz : (((w.alloc (.cells #[.func (.func gl) #[] #[]] 52)).alloc (.cells #[.int .i64 0] 3)).alloc (.cells #[.bool false] 4)).heap.size = w.heap.size + 1 + 1 + 1 := by simp
  refine callsIn_wide.1 (callsIn_of_wp_marks (n := 3) Tryz.func141 rfl trivial ?_ rfl)
  refine wpIn_wide.2 ?_
  simp only [Tryz.ntmps141, List.size_toArray, List.length_cons, List.length_nil, Nat.reduceAdd, Nat.reduceSub, Array.replicate_succ, Array.replicate_zero, List.push_toArray, List.append_toArray, List.nil_append, List.cons_append]
  go_wp2
  generalize ((w.alloc (.cells #[.func (.func gl) #[] #[]] 52)).alloc (.cells #[.int .i64 0] 3)).alloc (.cells #[.bool false] 4) = Wl at *
  obtain ⟨s1, s2⟩ : Wl.heap.size ≤ w.heap.size + 1 + 1 + 1 ∧ w.heap.size + 1 + 1 + 1 ≤ Wl.heap.size := by omega
  clear hsz
  refine wp_seq (α := Int) gf lb rfl ef HSeq.out (fun _ _ _ _ _ _ _ => trivial) B4.out (fun _ => rfl)
    (fun pre W => Below w.heap.size w W ∧ Has W w.heap.size 52 #[.func (.func gl) #[] #[]] ∧ Has W (w.heap.size + 1) 3 #[.int .i64 ((bestL lt pre).getD 0)] ∧ Has W (w.heap.size + 1 + 1) 4 #[.bool (bestL lt pre).isSome]) ?own ⟨B4.out, F3.out, F6.out, F7.out⟩
    (fun x a' W => a' = { tmps := #[.func (.func gf) #[] lb, .func (.func gl) #[] #[], undef, .pointer (some ⟨w.heap.size, 0, none⟩), .int .i64 0, .bool false, .pointer (some ⟨w.heap.size + 1, 0, none⟩), .pointer (some ⟨w.heap.size + 1 + 1, 0, none⟩), .int .i64 x,
      .func (.func gf) #[] lb, .int .i64 x, undef, undef, undef, undef, undef, undef, undef, undef, undef, undef, undef], defers := [] }) (fun a' x W W' row h _ _ => h) ?assign ?body ?done
  case own =>
    rintro pre W W' row ⟨a1, a2, a3, a4⟩ hg hr
    exact ⟨below_own a1 (by omega) hg hr, own_has () _ _ _ a2 hg hr, own_has () _ _ _ a3 hg hr, own_has () _ _ _ a4 hg hr⟩
  case assign =>
    intro l pre x W K hsz hI hx hK
    have HK := Lib.hid hK
    clear hK
    unfold inE
    gi_wp2
    exact HK.out _ _ (KeepsFrom.refl _ _) (Kc.refl _ _ _) hI hx rfl
  case body =>
    rintro l pre x a' W hsz ⟨a1, a2, a3, a4⟩ _ rfl
    have E := Lib.hid (bestL_snoc lt pre x)
    have HB := Lib.hid a1; have H3 := Lib.hid a2; have H6 := Lib.hid a3; have H7 := Lib.hid a4
    have c3 := a2.cell; have c6 := a3.cell; have c7 := a4.cell; have f6 := a3.frozen; have f7 := a4.frozen
    clear a1 a2 a3 a4
    cases hbo : bestL lt pre with
    | none =>
      rw [hbo] at E c6 c7 H6 H7
      clear hbo
      simp only [Option.getD_none, Option.isSome_none] at c6 c7
      gi_wp2
      repeat (refine ⟨(fun f hf => nomatch hf), ?_⟩; gi_wp2)
      refine ⟨(keeps_set W _ (by show w.heap.size + 1 < _; omega) _).trans (keeps_set _ _ (by show w.heap.size + 1 + 1 < _; omega) _), (Kc.store W _ _ (fun h => by have := hD _ h; simp at this; omega) (by show w.heap.size + 1 < _; omega)).trans (Kc.store _ _ _ (fun h => by have := hD _ h; simp at this; omega) (by show w.heap.size + 1 + 1 < _; omega)),
        setB (setB HB.out (by show w.heap.size ≤ w.heap.size + 1; omega) _) (by show w.heap.size ≤ w.heap.size + 1 + 1; omega) _, (H3.out.far (by show w.heap.size ≠ w.heap.size + 1; omega) _).far (by show w.heap.size ≠ w.heap.size + 1 + 1; omega) _,
        ((H6.out.set 0 _).far (by show w.heap.size + 1 ≠ w.heap.size + 1 + 1; omega) _).eq (by rw [E.out]; rfl), ((H7.out.far (by show w.heap.size + 1 + 1 ≠ w.heap.size + 1; omega) _).set 0 _).eq (by rw [E.out]; rfl)⟩
    | some b =>
      rw [hbo] at E c6 c7 H6 H7
      clear hbo
      simp only [Option.getD_some, Option.isSome_some] at c6 c7
      have HLs := Lib.hid fun (W' : World) => CallsIn.inRound l ((callsIn_wide (n := 0)).2 (HLess.out x b W'))
      cases hlt : lt x b
      all_goals
        have HLt := Lib.hid hlt
        rw [hlt] at HLs
        clear hlt
        gi_wp2_with (refine ⟨trivial, (HLs.out _).mono ?_⟩; rintro e w1 ⟨rfl, hb1⟩; have HB1 := Lib.hid hb1; have c6 := (H6.out.after hb1).cell; have f6 := (H6.out.after hb1).frozen; have c7 := (H7.out.after hb1).cell; have f7 := (H7.out.after hb1).frozen; clear hb1)
      · refine ⟨keeps_below HB1.out, Kc.below HB1.out, nextB HB.out HB1.out, H3.out.after HB1.out, (H6.out.after HB1.out).eq ?_, (H7.out.after HB1.out).eq ?_⟩
        · rw [E.out]; simp [better1, HLt.out]
        · rw [E.out]; simp [better1, HLt.out]
      · refine ⟨(keeps_below HB1.out).trans ((keeps_set w1 _ (by show w.heap.size + 1 < _; omega) _).trans (keeps_set _ _ (by show w.heap.size + 1 + 1 < _; omega) _)), (Kc.below HB1.out).trans ((Kc.store w1 _ _ (fun h => by have := hD _ h; simp at this; omega) (by show w.heap.size + 1 < _; omega)).trans (Kc.store _ _ _ (fun h => by have := hD _ h; simp at this; omega) (by show w.heap.size + 1 + 1 < _; omega))),
          setB (setB (nextB HB.out HB1.out) (by show w.heap.size ≤ w.heap.size + 1; omega) _) (by show w.heap.size ≤ w.heap.size + 1 + 1; omega) _, ((H3.out.after HB1.out).far (by show w.heap.size ≠ w.heap.size + 1; omega) _).far (by show w.heap.size ≠ w.heap.size + 1 + 1; omega) _,
          (((H6.out.after HB1.out).set 0 _).far (by show w.heap.size + 1 ≠ w.heap.size + 1 + 1; omega) _).eq (by rw [E.out]; simp [better1, HLt.out]), (((H7.out.after HB1.out).far (by show w.heap.size + 1 + 1 ≠ w.heap.size + 1; omega) _).set 0 _).eq (by rw [E.out]; simp [better1, HLt.out])⟩
  case done =>
    rintro Q0 ys W hQ rfl ⟨a1, a2, a3, a4⟩ hK
    have HB := Lib.hid a1; have H6 := Lib.hid a3; have H7 := Lib.hid a4; have HK := Lib.hid hK
    have c6 := a3.cell; have c7 := a4.cell
    clear a1 a2 a3 a4 hK HSeq
    go_wp2
    go_region
    go_wp2
    refine leaves_marks [Q0] W.drew (by simp) (fun D' hD' => by simp at hD'; subst hD'; exact HK.out) (fun w' y1 y2 y3 y4 y5 => ?_)
    exact ⟨_, results_tmp2 rfl _ _ _, rfl, ⟨y2.trans HB.out.os, y3.trans HB.out.tape, y4.trans HB.out.output, by rw [y1]; exact HB.out.size, fun i hi => (y5 i (by simp; omega)).trans (HB.out.block i hi)⟩⟩
end Go.Proofs
namespace Go.Proofs
open Go.RowKit Go.Shelf
attribute [local go_sem] Oper.semAt_some
attribute [local go_sem ↓] Go.wp_at_zero Go.wp_at_succ

def lsV (o : Option Ls) : Value := match o with | none => .slice none 0 0 | some x => .slice x.A x.n x.c
def ltN (a b : Ls) : Bool := decide (a.n < b.n)
theorem lsV_one (o : Option Ls) : (lsV o).oneCell' = true := by cases o <;> rfl
theorem Ls.Ok.keep {x : Ls} {w w' : World} (h : x.Ok w) (hb : Below w.heap.size w w') : x.Ok w' := ⟨h.1.keep hb, h.2⟩
theorem Ls.Ok.own {x : Ls} {B : Nat} {W W' : World} {row : Option Nat} (h : x.Ok W) (hg : W.grownBy W' row) (hr : ∀ r, row = some r → B ≤ r ∧ ∃ o : Obj, W.heap[r]? = some o ∧ o.isCells = false) : x.Ok W' := ⟨own_own h.1 hg hr, h.2⟩
theorem Ls.Ok.far {x : Ls} {w : World} (h : x.Ok w) {g i : Nat} {t : TypeId} {cs : Array Value} (hg : Has w g t cs) (ht : t ≠ (3 : Nat)) (u : Value) : x.Ok (w.setCell ⟨g, i, none⟩ u) := ⟨h.1.setFar hg ht u, h.2⟩

set_option maxRecDepth 100000 in
set_option maxHeartbeats 4000000 in
theorem bestL_c (gf : FuncId) (lb : Array Value) (ef : ∀ args w, (callFunc gf args).run Tryz.prog w = .ok (.enter gf args) w) (gl : FuncId) (egl : ∀ args w, (callFunc gl args).run Tryz.prog w = .ok (.enter gl args) w)
    (hless : ∀ (a b : Ls) (w : World), Calls Tryz.prog gl #[.slice a.A a.n a.c, .slice b.A b.n b.c] w fun e w' => e = .returned (.bool (ltN a b)) ∧ Below w.heap.size w w') (S : List Ls → Prop) (w : World) (D : Nat → Prop) (hD : ∀ k, D k → k < w.heap.size) (hseq : Sq gf lb lsC Ls.Ok S D w) :
    Calls Tryz.prog 98 #[.func (.func gf) #[] lb, .func (.func gl) #[] #[]] w fun e w' => ∃ ys, S ys ∧ e = .returned (.tuple #[lsV (bestL ltN ys), .bool (bestL ltN ys).isSome]) ∧ (∀ x, bestL ltN ys = some x → x.Ok w') ∧ Below w.heap.size w w' := by
  have HLess := Lib.hid hless; have HSeq := Lib.hid hseq
  clear hless hseq
  have B4 := Lib.hid (newB (newB (newB (Below.refl w.heap.size w) (.cells #[.func (.func gl) #[] #[]] 34)) (.cells #[.slice none 0 0] 30)) (.cells #[.bool false] 4))
  have F3 := Lib.hid (((Has.new w 34 #[.func (.func gl) #[] #[]]).alloc (.cells #[.slice none 0 0] 30)).alloc (.cells #[.bool false] 4))
  have F6 := Lib.hid ((Has.new' (w.alloc (.cells #[.func (.func gl) #[] #[]] 34)) 30 #[.slice none 0 0] (g := w.heap.size + 1) (by simp)).alloc (.cells #[.bool false] 4))
  have F7 := Lib.hid (Has.new' ((w.alloc (.cells #[.func (.func gl) #[] #[]] 34)).alloc (.cells #[.slice none 0 0] 30)) 4 #[.bool false] (g := w.heap.size + 1 + 1) (by simp))
  have hsz : (((w.alloc (.cells #[.func (.func gl) #[] #[]] 34)).alloc (.cells #[.slice none 0 0] 30)).alloc (.cells #[.bool false] 4)).heap.size = w.heap.size + 1 + 1 + 1 := by simp
  refine callsIn_wide.1 (callsIn_of_wp_marks (n := 3) Tryz.func98 rfl trivial ?_ rfl)
  refine wpIn_wide.2 ?_
  simp only [Tryz.ntmps98, List.size_toArray, List.length_cons, List.length_nil, Nat.reduceAdd, Nat.reduceSub, Array.replicate_succ, Array.replicate_zero, List.push_toArray, List.append_toArray, List.nil_append, List.cons_append]
  go_wp2
  generalize ((w.alloc (.cells #[.func (.func gl) #[] #[]] 34)).alloc (.cells #[.slice none 0 0] 30)).alloc (.cells #[.bool false] 4) = Wl at *
  obtain ⟨s1, s2⟩ : Wl.heap.size ≤ w.heap.size + 1 + 1 + 1 ∧ w.heap.size + 1 + 1 + 1 ≤ Wl.heap.size := by omega
  clear hsz
  refine wp_seq (α := Ls) gf lb rfl ef HSeq.out (fun x W W' row h hg hr => Ls.Ok.own h hg hr) B4.out (fun _ => rfl)
    (fun pre W => Below w.heap.size w W ∧ Has W w.heap.size 34 #[.func (.func gl) #[] #[]] ∧ Has W (w.heap.size + 1) 30 #[lsV (bestL ltN pre)] ∧ Has W (w.heap.size + 1 + 1) 4 #[.bool (bestL ltN pre).isSome] ∧ ∀ x, bestL ltN pre = some x → x.Ok W) ?own ⟨B4.out, F3.out, F6.out, F7.out, fun x h => by cases h⟩
    (fun x a' W => a' = { tmps := #[.func (.func gf) #[] lb, .func (.func gl) #[] #[], undef, .pointer (some ⟨w.heap.size, 0, none⟩), .slice none 0 0, .bool false, .pointer (some ⟨w.heap.size + 1, 0, none⟩), .pointer (some ⟨w.heap.size + 1 + 1, 0, none⟩), (.slice x.A x.n x.c),
      .func (.func gf) #[] lb, .slice x.A x.n x.c, undef, undef, undef, undef, undef, undef, undef, undef, undef, undef, undef], defers := [] }) (fun a' x W W' row h _ _ => h) ?assign ?body ?done
  case own =>
    rintro pre W W' row ⟨a1, a2, a3, a4, a5⟩ hg hr
    exact ⟨below_own a1 (by omega) hg hr, own_has () _ _ _ a2 hg hr, own_has () _ _ _ a3 hg hr, own_has () _ _ _ a4 hg hr, fun x h => (a5 x h).own hg hr⟩
  case assign =>
    intro l pre x W K hsz hI hx hK
    have HK := Lib.hid hK
    clear hK
    unfold lsC
    gi_wp2
    exact HK.out _ _ (KeepsFrom.refl _ _) (Kc.refl _ _ _) hI hx rfl
  case body =>
    rintro l pre x a' W hsz ⟨a1, a2, a3, a4, a5⟩ hx rfl
    have E := Lib.hid (bestL_snoc ltN pre x)
    have HXo := Lib.hid hx; have H5 := Lib.hid a5
    have HB := Lib.hid a1; have H3 := Lib.hid a2; have H6 := Lib.hid a3; have H7 := Lib.hid a4
    have c3 := a2.cell; have c6 := a3.cell; have c7 := a4.cell; have f6 := a3.frozen; have f7 := a4.frozen
    clear a1 a2 a3 a4 a5 hx
    cases hbo : bestL ltN pre with
    | none =>
      rw [hbo] at E c6 c7 H6 H7 H5
      clear hbo
      simp only [lsV, Option.isSome_none] at c6 c7
      gi_wp2
      repeat (refine ⟨(fun f hf => nomatch hf), ?_⟩; gi_wp2)
      refine ⟨(keeps_set W _ (by show w.heap.size + 1 < _; omega) _).trans (keeps_set _ _ (by show w.heap.size + 1 + 1 < _; omega) _), (Kc.store W _ _ (fun h => by have := hD _ h; simp at this; omega) (by show w.heap.size + 1 < _; omega)).trans (Kc.store _ _ _ (fun h => by have := hD _ h; simp at this; omega) (by show w.heap.size + 1 + 1 < _; omega)),
        setB (setB HB.out (by show w.heap.size ≤ w.heap.size + 1; omega) _) (by show w.heap.size ≤ w.heap.size + 1 + 1; omega) _, (H3.out.far (by show w.heap.size ≠ w.heap.size + 1; omega) _).far (by show w.heap.size ≠ w.heap.size + 1 + 1; omega) _,
        ((H6.out.set 0 _).far (by show w.heap.size + 1 ≠ w.heap.size + 1 + 1; omega) _).eq (by rw [E.out]; rfl), ((H7.out.far (by show w.heap.size + 1 + 1 ≠ w.heap.size + 1; omega) _).set 0 _).eq (by rw [E.out]; rfl), fun y hy => by
          rw [E.out] at hy; cases hy
          exact (HXo.out.far H6.out (by decide) _).far (H7.out.far (by show w.heap.size + 1 + 1 ≠ w.heap.size + 1; omega) _) (by decide) _⟩
    | some b =>
      rw [hbo] at E c6 c7 H6 H7 H5
      clear hbo
      simp only [lsV, Option.isSome_some] at c6 c7
      have HLs := Lib.hid fun (W' : World) => CallsIn.inRound l ((callsIn_wide (n := 0)).2 (HLess.out x b W'))
      cases hlt : ltN x b
      all_goals
        have HLt := Lib.hid hlt
        rw [hlt] at HLs
        clear hlt
        gi_wp2_with (refine ⟨trivial, (HLs.out _).mono ?_⟩; rintro e w1 ⟨rfl, hb1⟩; have HB1 := Lib.hid hb1; have c6 := (H6.out.after hb1).cell; have f6 := (H6.out.after hb1).frozen; have c7 := (H7.out.after hb1).cell; have f7 := (H7.out.after hb1).frozen; clear hb1)
      · refine ⟨keeps_below HB1.out, Kc.below HB1.out, nextB HB.out HB1.out, H3.out.after HB1.out, (H6.out.after HB1.out).eq ?_, (H7.out.after HB1.out).eq ?_, fun y hy => ?_⟩
        · rw [E.out]; simp [better1, HLt.out]
        · rw [E.out]; simp [better1, HLt.out]
        · rw [E.out] at hy; simp [better1, HLt.out] at hy; subst hy; exact (H5.out _ rfl).keep HB1.out
      · refine ⟨(keeps_below HB1.out).trans ((keeps_set w1 _ (by show w.heap.size + 1 < _; omega) _).trans (keeps_set _ _ (by show w.heap.size + 1 + 1 < _; omega) _)), (Kc.below HB1.out).trans ((Kc.store w1 _ _ (fun h => by have := hD _ h; simp at this; omega) (by show w.heap.size + 1 < _; omega)).trans (Kc.store _ _ _ (fun h => by have := hD _ h; simp at this; omega) (by show w.heap.size + 1 + 1 < _; omega))),
          setB (setB (nextB HB.out HB1.out) (by show w.heap.size ≤ w.heap.size + 1; omega) _) (by show w.heap.size ≤ w.heap.size + 1 + 1; omega) _, ((H3.out.after HB1.out).far (by show w.heap.size ≠ w.heap.size + 1; omega) _).far (by show w.heap.size ≠ w.heap.size + 1 + 1; omega) _,
          (((H6.out.after HB1.out).set 0 _).far (by show w.heap.size + 1 ≠ w.heap.size + 1 + 1; omega) _).eq (by rw [E.out]; simp [better1, HLt.out, lsV]), (((H7.out.after HB1.out).far (by show w.heap.size + 1 + 1 ≠ w.heap.size + 1; omega) _).set 0 _).eq (by rw [E.out]; simp [better1, HLt.out]), fun y hy => by
            rw [E.out] at hy; simp [better1, HLt.out] at hy; subst hy
            exact ((HXo.out.keep HB1.out).far (H6.out.after HB1.out) (by decide) _).far ((H7.out.after HB1.out).far (by show w.heap.size + 1 + 1 ≠ w.heap.size + 1; omega) _) (by decide) _⟩
  case done =>
    rintro Q0 ys W hQ hS ⟨a1, a2, a3, a4, a5⟩ hK
    have HS := Lib.hid hS; have H5 := Lib.hid a5
    have HB := Lib.hid a1; have H6 := Lib.hid a3; have H7 := Lib.hid a4; have HK := Lib.hid hK
    have c6 := a3.cell; have c7 := a4.cell
    clear a1 a2 a3 a4 a5 hK hS HSeq
    go_wp2
    go_region
    go_wp2
    refine leaves_marks [Q0] W.drew (by simp) (fun D' hD' => by simp at hD'; subst hD'; exact HK.out) (fun w' y1 y2 y3 y4 y5 => ?_)
    refine ⟨_, results_tmp2 rfl _ _ _, ys, HS.out, rfl, fun x hx => ?_, ⟨y2.trans HB.out.os, y3.trans HB.out.tape, y4.trans HB.out.output, by rw [y1]; exact HB.out.size, fun i hi => (y5 i (by simp; omega)).trans (HB.out.block i hi)⟩⟩
    obtain ⟨h1, h2⟩ := H5.out x hx
    refine ⟨⟨h1.1, ?_⟩, h2⟩
    rcases h1.2 with h3 | ⟨g, cap, cur, e1, e2, e3, e4⟩
    · exact .inl h3
    · exact .inr ⟨g, cap, cur, e1, e2, (y5 g (fun hm => by simp at hm; subst hm; have := HK.out; rw [show W.heap[g]? = _ from e3] at this; cases this)).trans e3, e4⟩
end Go.Proofs
