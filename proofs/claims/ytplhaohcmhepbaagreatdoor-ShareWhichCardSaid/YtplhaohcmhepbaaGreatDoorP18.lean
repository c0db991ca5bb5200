/-
  Contracts of the specification's Took, Before, IsTrips and Trips hold at every season of moderate size.
-/
import Derived.Test.YtplhaohcmhepbaaGreatDoorP15
import Derived.Test.YtplhaohcmhepbaaGreatDoorP3
import Derived.Test.YtplhaohcmhepbaaGreatDoorP6
import Derived.Test.YtplhaohcmhepbaaGreatDoorP14
import Derived.Test.YtplhaohcmhepbaaGreatDoorP12
namespace Go.Proofs

/-- Lexicographic order. -/
def befB : List Int → List Int → Bool
  | [], [] => false
  | [], _ :: _ => true
  | _ :: _, [] => false
  | x :: a, y :: b => if x = y then befB a b else decide (x < y)
theorem bef_app : ∀ l a b : List Int, befB (l ++ a) (l ++ b) = befB a b
  | [], _, _ => rfl
  | x :: l, a, b => by simp only [List.cons_append, befB, if_true]; exact bef_app l a b
theorem bef_irrefl : ∀ a : List Int, befB a a = false
  | [] => rfl
  | x :: a => by simp only [befB, if_true]; exact bef_irrefl a
theorem bef_asymm : ∀ a b : List Int, befB a b = true → befB b a = false
  | [], [], h => by simp [befB] at h
  | [], _ :: _, _ => rfl
  | _ :: _, [], h => by simp [befB] at h
  | x :: a, y :: b, h => by
    by_cases e : x = y
    · subst e
      simp only [befB, if_true] at *
      exact bef_asymm a b h
    · simp only [befB, if_neg e, if_neg (Ne.symm e), decide_eq_true_eq, decide_eq_false_iff_not] at *
      omega
theorem moreL_pw : ∀ (r l : List Int), r.Pairwise (· < ·) → (moreL l r).Pairwise (fun a b => befB a b = true)
  | [], _, _ => by simp [moreL]
  | n :: r, l, h => by
    have h1 := List.pairwise_cons.1 h
    simp only [moreL]
    rw [List.pairwise_append]
    refine ⟨List.pairwise_cons.2 ⟨fun x hx => ?_, moreL_pw r _ h1.2⟩, moreL_pw r l h1.2, fun x hx y hy => ?_⟩
    · obtain ⟨t, rfl, _, ht⟩ := moreL_mem r _ x hx
      have := bef_app (l ++ [n]) [] t
      rw [List.append_nil] at this
      rw [this]
      cases t with
      | nil => exact absurd rfl ht
      | cons a b => rfl
    · obtain ⟨t, rfl, hs, ht⟩ := moreL_mem r _ y hy
      have hx' : ∃ u, x = l ++ (n :: u) := by
        rcases List.mem_cons.1 hx with rfl | hx
        · exact ⟨[], rfl⟩
        · obtain ⟨u, rfl, _, _⟩ := moreL_mem r _ x hx
          exact ⟨u, by simp⟩
      obtain ⟨u, rfl⟩ := hx'
      rw [bef_app]
      cases t with
      | nil => exact absurd rfl ht
      | cons a b =>
        have ha := h1.1 a (hs.subset (by simp))
        simp only [befB]
        rw [if_neg (by omega)]
        simpa using ha
theorem listsL_pw {ns : List Int} (h : ns.Pairwise (· < ·)) : (listsL ns).Pairwise (fun a b => befB a b = true) := by
  unfold listsL
  refine List.pairwise_cons.2 ⟨fun x hx => ?_, moreL_pw ns [] h⟩
  obtain ⟨t, he, _, ht⟩ := moreL_mem ns [] x hx
  rw [List.nil_append] at he
  subst he
  cases x with
  | nil => exact absurd rfl ht
  | cons a b => rfl
theorem snoc_ind {α : Type} {p : List α → Prop} (h0 : p []) (h1 : ∀ xs x, p xs → p (xs ++ [x])) (L : List α) : p L := by
  have e := List.reverse_reverse L
  rw [← e]
  induction L.reverse with
  | nil => exact h0
  | cons x r ih => rw [List.reverse_cons]; exact h1 _ _ ih
theorem listsL_all {ns x : List Int} (h : x.Sublist ns) : x ∈ listsL ns := by
  have key : ∀ (r t l : List Int), t.Sublist r → t ≠ [] → l ++ t ∈ moreL l r := by
    intro r
    induction r with
    | nil => intro t l h h2; exact absurd (List.sublist_nil.1 h) h2
    | cons n r ih =>
      intro t l h h2
      simp only [moreL, List.mem_append, List.mem_cons]
      cases h with
      | cons _ h => right; exact ih t l h h2
      | cons_cons _ h =>
        rename_i s
        left
        by_cases hs : s = []
        · left; rw [hs]
        · right
          have := ih s (l ++ [n]) h hs
          rwa [List.append_assoc, List.singleton_append] at this
  unfold listsL
  by_cases h2 : x = []
  · simp [h2]
  · exact List.mem_cons_of_mem _ (by simpa using key ns x [] h h2)
theorem bestL_none {α : Type} {lt : α → α → Bool} : ∀ {L : List α}, bestL lt L = none → L = [] := by
  intro L
  refine snoc_ind (p := fun L => bestL lt L = none → L = []) (fun _ => rfl) ?_ L
  · intro xs x _ h
    rw [bestL_snoc] at h
    cases hb : bestL lt xs with
    | none => rw [hb] at h; simp [better1] at h
    | some b => rw [hb] at h; simp only [better1] at h; split at h <;> cases h
/-- The first of the shortest lists. -/
theorem bestLen : ∀ {L : List (List Int)}, L.Pairwise (fun a b => befB a b = true) → ∀ t, bestL ltLen L = some t → t ∈ L ∧ ∀ x ∈ L, t.length ≤ x.length ∧ (x.length = t.length → x = t ∨ befB t x = true) := by
  intro L
  refine snoc_ind (p := fun L : List (List Int) => L.Pairwise (fun a b => befB a b = true) → ∀ t, bestL ltLen L = some t → t ∈ L ∧ ∀ x ∈ L, t.length ≤ x.length ∧ (x.length = t.length → x = t ∨ befB t x = true)) (fun _ t h => by simp [bestL] at h) ?_ L
  · intro xs x ih hp t h
    obtain ⟨p1, _, p3⟩ := List.pairwise_append.1 hp
    rw [bestL_snoc] at h
    cases hb : bestL ltLen xs with
    | none =>
      have := bestL_none hb
      subst this
      rw [hb] at h
      simp [better1] at h
      subst h
      exact ⟨by simp, fun y hy => by simp at hy; subst hy; exact ⟨Nat.le_refl _, fun _ => .inl rfl⟩⟩
    | some b =>
      obtain ⟨i1, i2⟩ := ih p1 b hb
      rw [hb] at h
      by_cases hc : x.length < b.length
      · have hlt : ltLen x b = true := by simp [ltLen, hc]
        simp only [better1, hlt, if_true] at h
        cases h
        refine ⟨by simp, fun y hy => ?_⟩
        rcases List.mem_append.1 hy with hy | hy
        · have := i2 y hy; exact ⟨by omega, fun e => by omega⟩
        · simp at hy; subst hy; exact ⟨Nat.le_refl _, fun _ => .inl rfl⟩
      · have hlt : ltLen x b = false := by simp [ltLen]; omega
        simp [better1, hlt] at h
        subst h
        refine ⟨by simp [i1], fun y hy => ?_⟩
        rcases List.mem_append.1 hy with hy | hy
        · exact i2 y hy
        · simp at hy; subst hy
          exact ⟨by omega, fun _ => .inr (p3 _ i1 _ (by simp))⟩
theorem ints_range_pw (n : Nat) : (ints (List.range n)).Pairwise (· < ·) := by
  unfold ints
  rw [List.pairwise_map]
  refine (List.pairwise_lt_range).imp ?_
  intro a b h; exact_mod_cast h
/-- What is best among lists of landings. -/
theorem trips_spec (n : Nat) (g : List Int → Bool) : (bestL ltLen ((listsL (ints (List.range n))).filter g) = none → ∀ x : List Int, x.Sublist (ints (List.range n)) → g x = false) ∧
    (∀ t, bestL ltLen ((listsL (ints (List.range n))).filter g) = some t → t.Sublist (ints (List.range n)) ∧ g t = true ∧ ∀ x : List Int, x.Sublist (ints (List.range n)) → g x = true → t.length ≤ x.length ∧ (x.length = t.length → x = t ∨ befB t x = true)) := by
  constructor
  · intro h x hx
    have h1 := bestL_none h
    cases hg : g x
    · rfl
    · have : x ∈ (listsL (ints (List.range n))).filter g := List.mem_filter.2 ⟨listsL_all hx, hg⟩
      rw [h1] at this; simp at this
  · intro t ht
    obtain ⟨h1, h2⟩ := bestLen ((listsL_pw (ints_range_pw n)).filter g) t ht
    obtain ⟨h3, h4⟩ := List.mem_filter.1 h1
    exact ⟨listsL_mem h3, h4, fun x hx hg => h2 x (List.mem_filter.2 ⟨listsL_all hx, hg⟩)⟩
/-- Increasing numbers of landings are a part of all of them. -/
theorem incr_sublist : ∀ (m k : Nat) (x : List Int), x.Pairwise (· < ·) → (∀ y ∈ x, (k : Int) ≤ y ∧ y < (k : Int) + m) → x.Sublist (ints (List.range' k m))
  | 0, k, x, _, h => by
    cases x with
    | nil => exact List.nil_sublist _
    | cons a r => have := h a (by simp); omega
  | m + 1, k, x, hp, h => by
    cases x with
    | nil => exact List.nil_sublist _
    | cons a r =>
      obtain ⟨h1, h2⟩ := List.pairwise_cons.1 hp
      have ha := h a (by simp)
      rw [List.range'_succ]
      simp only [ints, List.map_cons]
      by_cases e : a = k
      · subst e
        refine List.Sublist.cons_cons _ (incr_sublist m (k + 1) r h2 (fun y hy => ?_))
        have := h1 y hy; have := h y (by simp [hy]); push_cast; omega
      · refine List.Sublist.cons _ (incr_sublist m (k + 1) (a :: r) hp (fun y hy => ?_))
        rcases List.mem_cons.1 hy with rfl | hy
        · push_cast; omega
        · have := h1 y hy; have := h y (by simp [hy]); push_cast; omega
end Go.Proofs
namespace Go.Proofs
open Go.RowKit Go.Shelf
attribute [local go_sem ↓] Go.wp_at_zero Go.wp_at_succ

/-- Who took part in just some landings. -/
theorem took_not {ps : List Pe} {ls : List La} (h : Seas ps ls) {k : Nat} (hk : k < ps.length) (_ : k ≠ 0) : ∀ (ts : List Nat) (d : Nat), d ∉ ts → ∀ x, (takenL ls k ts)[d]? = some x → hasB x.w k = false := by
  have h6 := h.six
  have hC : ∀ y ∈ ls.map (tookC k), hasB y.w k = false := fun y hy => by
    obtain ⟨z, hz, rfl⟩ := List.mem_map.1 hy
    have hb := h.w64 hz
    have := has_clr hb.1 hb.2 (show k < 6 by omega) (show k < 6 by omega)
    simpa [tookC] using this
  intro ts
  have key : ∀ (n : Nat) (d : Nat), d ∉ ts.take n → ∀ x, (takenL ls k (ts.take n))[d]? = some x → hasB x.w k = false := by
    intro n
    induction n with
    | zero =>
      intro d _ x hx
      refine hC x ?_
      have e : takenL ls k (ts.take 0) = ls.map (tookC k) := rfl
      rw [e] at hx
      exact List.mem_of_getElem? hx
    | succ n ih =>
      intro d hd x hx
      by_cases hn : n < ts.length
      · rw [takenL_take ls k ts n hn] at hx
        have hne : ts[n] ≠ d := by
          rintro rfl
          apply hd
          rw [← List.take_append_getElem hn]
          exact List.mem_append_right _ (List.mem_singleton.2 rfl)
        rw [List.getElem?_modify] at hx
        simp only [hne, if_false] at hx
        refine ih d (fun hm => hd ?_) x (by simpa using hx)
        rw [← List.take_append_getElem hn]
        exact List.mem_append_left _ hm
      · rw [List.take_of_length_le (by omega)] at hx hd
        rw [List.take_of_length_le (by omega)] at ih
        exact ih d hd x hx
  intro d hd x hx
  have := key ts.length d
  rw [List.take_of_length_le (Nat.le_refl _)] at this
  exact this hd x hx
theorem clrN_sub {w : Int} {k : Nat} (h : hasB w k = true) : clrN w k = w - 2 ^ k := by unfold clrN; rw [h]; rfl
theorem clrN_same {w : Int} {k : Nat} (h : hasB w k = false) : clrN w k = w := by unfold clrN; rw [h]; rfl
theorem setN_add {w : Int} {k : Nat} (h : hasB w k = false) : setN w k = w + 2 ^ k := by unfold setN; rw [h]; rfl
set_option maxHeartbeats 4000000 in
set_option maxRecDepth 20000 in
/-- The specification's season in which a person took part in just some landings: where there are landings. -/
theorem refTook_1 (s : Sv) (hs : Seas s.ps s.ls) (k : Nat) (hk : k < s.pn) (hk0 : k ≠ 0) (A : Option Addr) (n c : Nat) (ts : List Nat) (hnd : ts.Nodup) (hd : ∀ t ∈ ts, t < s.ln) (hn6 : n ≤ 1000000) (hln0 : 0 < s.ln) (w : World) (hi : s.In w) (hA : SlOf inC 1 w A n (ints ts)) :
    Calls Tryz.prog 37 #[s.val, .int .i64 k, .slice A n c] w fun e w' => ∃ lA' lc', e = .returned (.agg #[.slice s.pA s.pn s.pc, .slice lA' s.ln lc']) ∧ SlOf La.cs 3 w' lA' s.ln (takenL s.ls k ts) ∧ Below w.heap.size w w' := by
  have hpl : s.ps.length = s.pn := hi.ps.1
  have hll : s.ls.length = s.ln := hi.ls.1
  have h6 : s.pn ≤ 6 := by rw [← hpl]; exact hs.six
  have hl6 : s.ln ≤ 6 := by rw [← hll]; exact hs.few
  have HN := Lib.hid (show ts.length = n by have := hA.1; simpa [ints] using this)
  have HW := Lib.hid fun (y : La) (hy : y ∈ s.ls) => hs.w64 hy
  have HTw := Lib.hid fun (xs : List Nat) (y : La) (hy : y ∈ takenL s.ls k xs) => (hs.took (by rw [hpl]; exact hk) hk0 xs).w64 hy
  have HNot := Lib.hid fun (xs : List Nat) (d : Nat) (hd : d ∉ xs) (x : La) (hx : (takenL s.ls k xs)[d]? = some x) => took_not hs (by rw [hpl]; exact hk) hk0 xs d hd x hx
  have HPw := Lib.hid fun (W : World) => power_c k (by omega) W
  have hpw := pow_bd k (by omega)
  have hpw5 : (2 : Int) ^ k ≤ 32 := by
    have h1 : (2 : Nat) ^ k ≤ 2 ^ 5 := Nat.pow_le_pow_right (by omega) (by omega)
    have e : ((2 ^ k : Nat) : Int) = (2 : Int) ^ k := by push_cast; rfl
    omega
  have HPI := Lib.hid (show ∀ w : Int, hasB w k = true → clrN w k = w - 2 ^ k from fun w h => clrN_sub h)
  have HPJ := Lib.hid (show ∀ w : Int, hasB w k = false → setN w k = w + 2 ^ k from fun w h => setN_add h)
  have HPK := Lib.hid (show ∀ w : Int, hasB w k = false → clrN w k = w from fun w h => clrN_same h)
  obtain ⟨pA, lA, pn, pc, ln, lc, ps, ls⟩ := s
  obtain ⟨hp, hl⟩ := hi
  simp only [Sv.val] at *
  obtain ⟨lb, lo, rfl⟩ := hl.addr hln0
  have HL := Lib.hid hl; have HLL := Lib.hid hll; have HA := Lib.hid hA; have HD := Lib.hid hd; have HND := Lib.hid hnd
  clear hp hl hA hd hnd hs hpl hll
  generalize (2 : Int) ^ k = q at *
  have F2 := Lib.hid ((Has.new w 25 #[.slice pA pn pc, .slice (some ⟨lb, lo, none⟩) ln lc]).alloc (.cells #[.slice none 0 0, .slice none 0 0] 25))
  have F4 := Lib.hid (Has.new' (w.alloc (.cells #[.slice pA pn pc, .slice (some ⟨lb, lo, none⟩) ln lc] 25)) 25 #[.slice none 0 0, .slice none 0 0] (g := w.heap.size + 1) (by simp))
  have B0 := Lib.hid (newB (newB (Below.refl w.heap.size w) (.cells #[.slice pA pn pc, .slice (some ⟨lb, lo, none⟩) ln lc] 25)) (.cells #[.slice none 0 0, .slice none 0 0] 25))
  go_enter Tryz.func37, Tryz.ntmps37
  go_wp2_with (first
    | (refine wpList_load_row rfl 25 _ rfl w.heap.size rfl 25 _ (0, 0) _ (F2.out.alloc _) Tryz.underlying25 rfl (by kernel_rfl) ?_)
    | (refine wpList_load_row rfl 25 _ rfl w.heap.size rfl 25 _ (0, 0) _ F2.out Tryz.underlying25 rfl (by kernel_rfl) ?_)
    | (refine wpList_store_all rfl 25 _ _ rfl (w.heap.size + 1 + 1) rfl _ rfl 25 _ (Has.new' _ _ _ (by simp)) (by kernel_rfl) rfl (by simp [Value.oneCell']) ?_; refine Hold.out ?_))
  refine ⟨?_⟩
  have hz : ((w.alloc (.cells #[.slice pA pn pc, .slice (some ⟨lb, lo, none⟩) ln lc] 25)).alloc (.cells #[.slice none 0 0, .slice none 0 0] 25)).heap.size = w.heap.size + 1 + 1 := by simp
  generalize (w.alloc (.cells #[.slice pA pn pc, .slice (some ⟨lb, lo, none⟩) ln lc] 25)).alloc (.cells #[.slice none 0 0, .slice none 0 0] 25) = W0 at *
  have F5 := Lib.hid ((Has.new' W0 25 #[.slice none 0 0, .slice none 0 0] hz).setRow #[.slice pA pn pc, .slice (some ⟨lb, lo, none⟩) ln lc])
  have B5 := Lib.hid (rowB (newB B0.out (.cells #[.slice none 0 0, .slice none 0 0] 25)) (g := w.heap.size + 1 + 1) (by omega) #[.slice pA pn pc, .slice (some ⟨lb, lo, none⟩) ln lc])
  have F25 := Lib.hid ((F2.out.alloc (.cells #[.slice none 0 0, .slice none 0 0] 25)).setRow_far (k := w.heap.size + 1 + 1) (by omega) #[.slice pA pn pc, .slice (some ⟨lb, lo, none⟩) ln lc])
  have F45 := Lib.hid ((F4.out.alloc (.cells #[.slice none 0 0, .slice none 0 0] 25)).setRow_far (k := w.heap.size + 1 + 1) (by omega) #[.slice pA pn pc, .slice (some ⟨lb, lo, none⟩) ln lc])
  have hz1 : ((W0.alloc (.cells #[.slice none 0 0, .slice none 0 0] 25)).setRow (w.heap.size + 1 + 1) #[.slice pA pn pc, .slice (some ⟨lb, lo, none⟩) ln lc]).heap.size = w.heap.size + 3 := by simp [hz]
  generalize (W0.alloc (.cells #[.slice none 0 0, .slice none 0 0] 25)).setRow (w.heap.size + 1 + 1) #[.slice pA pn pc, .slice (some ⟨lb, lo, none⟩) ln lc] = W1 at *
  have c1 := F25.out.cell
  clear hz
  go_wp2_with (at_builtin; refine Hold.out ?_)
  refine ⟨?_⟩
  refine El.appMany eL_ok rfl _ _ rfl (w.heap.size + 3) (.slice none 0 0) [] rfl (Own.nil _ _ _) ⟨lb, lo, none⟩ ln lc ls rfl (HL.out.keep B5.out) (by simp; omega) (by omega) ?_
  intro v6 w6 ho6 hb6 hs6
  rw [List.nil_append] at ho6
  obtain ⟨A6, c6, rfl, _, _⟩ := ho6.sl
  rw [HLL.out] at ho6 ⊢
  obtain ⟨g6, rfl⟩ := ho6.addr hln0
  have hg6 := (World.ownsRow.lt ho6 g6 rfl)
  have H5 := Lib.hid (show Has w6 (w.heap.size + 1 + 1) 25 #[.slice pA pn pc, .slice (some ⟨lb, lo, none⟩) ln lc] from (hb6.block (w.heap.size + 1 + 1) (by omega)).trans F5.out)
  have H4 := Lib.hid (show Has w6 (w.heap.size + 1) 25 #[.slice none 0 0, .slice none 0 0] from (hb6.block (w.heap.size + 1) (by omega)).trans F45.out)
  have HB6 := Lib.hid (B5.out.trans (hb6.mono (by omega)))
  have c5 := H5.out.cell; have f5 := H5.out.frozen; have z5 := H5.out.lt
  have HO6 := Lib.hid (ho6.setFar (i := 1) H5.out (by decide) (.slice (some ⟨g6, 0, none⟩) ln c6))
  have HB7 := Lib.hid (setB HB6.out (p := ⟨w.heap.size + 1 + 1, 1, none⟩) (by simp; omega) (.slice (some ⟨g6, 0, none⟩) ln c6))
  have H57 := Lib.hid (show Has (w6.setCell ⟨w.heap.size + 1 + 1, 1, none⟩ (.slice (some ⟨g6, 0, none⟩) ln c6)) (w.heap.size + 1 + 1) 25 #[.slice pA pn pc, .slice (some ⟨g6, 0, none⟩) ln c6] from H5.out.set 1 _)
  have H47 := Lib.hid (H4.out.far (p := ⟨w.heap.size + 1 + 1, 1, none⟩) (by simp) (.slice (some ⟨g6, 0, none⟩) ln c6))
  clear ho6 hb6 hs6 c1
  go_wp2
  generalize w6.setCell ⟨w.heap.size + 1 + 1, 1, none⟩ (.slice (some ⟨g6, 0, none⟩) ln c6) = W7 at *
  clear c5 f5 z5
  go_loopw [8] (fun v wr => ∃ j : Nat, j ≤ ln ∧ v = .int .i64 j ∧ Below w.heap.size w wr ∧ Has wr (w.heap.size + 1 + 1) 25 #[.slice pA pn pc, .slice (some ⟨g6, 0, none⟩) ln c6] ∧ Has wr (w.heap.size + 1) 25 #[.slice none 0 0, .slice none 0 0]
    ∧ Own eL (w.heap.size + 3) (.slice (some ⟨g6, 0, none⟩) ln c6) (midF (tookC k) ls j) wr) (fun v _ => ln - (intOf v).toNat)
  case atStart => exact ⟨0, by omega, rfl, HB7.out, H57.out, H47.out, by simpa [midF] using HO6.out⟩
  case round =>
    obtain ⟨j, hj, rfl, hB, h5, h4, hO⟩ := hrel
    have HB := Lib.hid hB; have H5r := Lib.hid h5; have H4r := Lib.hid h4; have HO := Lib.hid hO
    have cr := h5.cell; have zr := h5.lt
    clear hB h5 h4 hO
    by_cases hjn : j < ln
    · have hjl : j < ls.length := by rw [HLL.out]; exact hjn
      have hgx := midF_get (tookC k) ls j hjl
      have HMs := Lib.hid (midF_set (tookC k) ls j hjl)
      have hxw := HW.out _ (List.getElem_mem hjl)
      obtain ⟨x, hxx⟩ : ∃ x, x = ls[j] := ⟨_, rfl⟩
      rw [← hxx] at hgx HMs hxw
      obtain ⟨x0, x1, x2⟩ := x
      simp only at hxw
      have HA := Lib.hid fun (W : World) => refHas_c x2 (by omega) (by omega) k (by omega) W
      have HCl := Lib.hid fun (w' : World) (hb : Below wr.heap.size wr w') => (show w'.cell? ⟨g6, j * 3 + 2, none⟩ = some (.int .i64 x2) from by
        obtain ⟨A', c', e1, h1, _⟩ := (HO.out.keep hb).sl
        simp only [Value.slice.injEq] at e1
        obtain ⟨rfl, e2, _⟩ := e1
        have := h1.range La.cs_len hgx 2 _ rfl; simpa using this)
      have qc := HCl.out wr (Below.refl _ _)
      cases c1 : hasB x2 k
      · have HSm := Lib.hid (show midF (tookC k) ls (j + 1) = midF (tookC k) ls j from by
          rw [← HMs.out]
          have e : tookC k ⟨x0, x1, x2⟩ = ⟨x0, x1, x2⟩ := by unfold tookC; rw [HPK.out x2 c1]
          rw [e]
          apply List.ext_getElem?
          intro i
          by_cases hij : j = i
          · subst hij; rw [List.getElem?_set_self (by rw [midF_len]; exact hjl), hgx]
          · rw [List.getElem?_set_ne hij])
        rw [c1] at HA
        clear c1 hgx hxx
        go_wp2_with (go_at_call 36; refine (HA.out _).mono ?_; rintro e w2 ⟨rfl, rfl⟩)
        go_roundw
        case rel => exact ⟨j + 1, by omega, by go_num, HB.out, H5r.out, H4r.out, by rw [HSm.out]; exact HO.out⟩
        case measure => first | (simp [intOf]; done) | (simp [intOf]; omega)
      · have hcl := HPI.out x2 c1
        have HSet := Lib.hid fun (w' : World) (hb : Below wr.heap.size wr w') => (HO.out.keep hb).setAt eL_ok (x' := tookC k ⟨x0, x1, x2⟩) (u := .int .i64 (clrN x2 k)) (j := 2) hgx (by decide) rfl
        rw [HMs.out, hcl] at HSet
        have HFz := Lib.hid fun (w' : World) (hb : Below wr.heap.size wr w') => (HO.out.keep hb).frozen (j * 3 + 2)
        have hgl := HO.out.blt
        rw [c1] at HA
        clear c1 hgx hxx hcl
        go_wp2_with (go_at_call 36; refine (HA.out _).mono ?_; rintro e w2 ⟨rfl, rfl⟩)
        apply wp_loose 12 [.v _, .v _, .v _, .v _, .v _, .v _, .v _, .v _, .v _, .v _, .v _, .v _] (by kernel_rfl) (by kernel_rfl) (by kernel_rfl) (by decide) rfl
        intro K hK
        iterate 10 (apply OblS.val (by kernel_rfl); (intro w' hb _; have := (H5r.out.after hb).cell; have := HCl.out w' hb; go_simp; rfl))
        apply OblS.call 93 (by kernel_rfl)
        · intro w' hb _; apply Exists.intro; apply And.intro; (go_simp; rfl); refine (HPw.out w').mono ?_; rintro e w2 ⟨rfl, rfl⟩; exact ⟨rfl, Below.refl _ _⟩
        apply OblS.val (v := .int .i64 (x2 - q)) (by kernel_rfl)
        · intro w' hb _; go_simp; rw [IntKind.wrap_i64]; omega
        apply OblS.nil
        apply hK
        intro w4 hb hH
        clear hH hK K
        simp only [Act.put, List.setIfInBounds_toArray, List.set_cons_zero, List.set_cons_succ, List.drop_succ_cons, List.drop_zero]
        have HB4 := Lib.hid (nextB HB.out hb); have H54 := Lib.hid (H5r.out.after hb); have H44 := Lib.hid (H4r.out.after hb); have HS4 := Lib.hid (HSet.out w4 hb)
        have q1 := HCl.out w4 hb; have q2 := HFz.out w4 hb
        have hgl2 : g6 < w4.heap.size := Nat.lt_of_lt_of_le hgl hb.size
        clear hb qc cr
        go_wp2
        go_roundw
        case rel => exact ⟨j + 1, by omega, by go_num, setB HB4.out (by simp; omega) _, H54.out.far (by simp; omega) _, H44.out.far (by simp; omega) _, HS4.out⟩
        case measure => first | (simp [intOf]; done) | (simp [intOf]; omega)
    · have hje : j = ln := by omega
      subst hje
      have HE := Lib.hid (show midF (tookC k) ls j = takenL ls k [] by
        unfold midF takenL
        rw [List.take_of_length_le (by rw [HLL.out]; exact Nat.le_refl _), List.drop_eq_nil_of_le (by rw [HLL.out]; exact Nat.le_refl _)]; simp)
      rw [HE.out] at HO
      clear HE
      go_wp2
      go_loopw [9] (fun v wi => ∃ i : Nat, i ≤ n ∧ v = .int .i64 i ∧ Below w.heap.size w wi ∧ Has wi (w.heap.size + 1 + 1) 25 #[.slice pA pn pc, .slice (some ⟨g6, 0, none⟩) j c6] ∧ Has wi (w.heap.size + 1) 25 #[.slice none 0 0, .slice none 0 0] ∧ Own eL (w.heap.size + 3) (.slice (some ⟨g6, 0, none⟩) j c6) (takenL ls k (ts.take i)) wi) (fun v _ => n - (intOf v).toNat)
      case atStart => exact ⟨0, by omega, rfl, HB.out, H5r.out, H4r.out, HO.out⟩
      case round =>
        obtain ⟨i, hin, rfl, hB, h5, h4, hO⟩ := hrel
        clear HB H5r H4r HO cr zr
        have HB := Lib.hid hB; have H5r := Lib.hid h5; have H4r := Lib.hid h4; have HO := Lib.hid hO
        have cr := h5.cell; have zr := h5.lt
        clear hB h5 h4 hO
        by_cases hkn : i < n
        · have hkl : i < ts.length := by rw [HN.out]; exact hkn
          obtain ⟨b, o, he⟩ := HA.out.addr (by omega)
          have hdk := HD.out _ (List.getElem_mem hkl)
          have HT := Lib.hid (takenL_take ls k ts i hkl)
          have hx : (ints ts)[i]? = some ((ts[i] : Nat) : Int) := by simp [ints, List.getElem?_eq_getElem hkl]
          have hni : ts[i] ∉ ts.take i := fun hm => by
            obtain ⟨m, hm1, hm2⟩ := List.getElem_of_mem hm
            rw [List.getElem_take] at hm2
            have hmi : m < i := by simp at hm1; omega
            have hlt : m < ts.length := by omega
            have := (List.pairwise_iff_getElem.1 HND.out) m i hlt hkl hmi
            exact this hm2
          obtain ⟨d, hdd⟩ : ∃ d, d = ts[i] := ⟨_, rfl⟩
          rw [← hdd] at hdk HT hx hni
          subst he
          have HCi := Lib.hid fun (w' : World) (hb : Below wr.heap.size wr w') => (show w'.cell? ⟨b, o + i, none⟩ = some (.int .i64 d) from by have := (HA.out.keep (nextB HB.out hb)).range inC_len hx 0 _ rfl; simpa using this)
          have hdl : d < (takenL ls k (ts.take i)).length := by rw [takenL_len, HLL.out]; exact hdk
          have hgx := List.getElem?_eq_getElem hdl
          have hxw := HTw.out (ts.take i) _ (List.getElem_mem hdl)
          obtain ⟨x, hxx⟩ : ∃ x, x = (takenL ls k (ts.take i))[d] := ⟨_, rfl⟩
          rw [← hxx] at hgx hxw
          have hnot := HNot.out (ts.take i) d hni x hgx
          have HMs := Lib.hid (show takenL ls k (ts.take (i + 1)) = (takenL ls k (ts.take i)).set d (tookS k x) by rw [HT.out, list_set_modify _ _ _ _ hgx])
          obtain ⟨x0, x1, x2⟩ := x
          simp only at hxw hnot
          have HCl := Lib.hid fun (w' : World) (hb : Below wr.heap.size wr w') => (show w'.cell? ⟨g6, d * 3 + 2, none⟩ = some (.int .i64 x2) from by
            obtain ⟨A', c', e1, h1, _⟩ := (HO.out.keep hb).sl
            simp only [Value.slice.injEq] at e1
            obtain ⟨rfl, e2, _⟩ := e1
            have := h1.range La.cs_len hgx 2 _ rfl; simpa using this)
          have hst := HPJ.out x2 hnot
          have HSet := Lib.hid fun (w' : World) (hb : Below wr.heap.size wr w') => (HO.out.keep hb).setAt eL_ok (x' := tookS k ⟨x0, x1, x2⟩) (u := .int .i64 (setN x2 k)) (j := 2) hgx (by decide) rfl
          rw [← HMs.out, hst] at HSet
          have HFz := Lib.hid fun (w' : World) (hb : Below wr.heap.size wr w') => (HO.out.keep hb).frozen (d * 3 + 2)
          have hgl := HO.out.blt
          have hgf := (World.ownsRow.lt HO.out g6 rfl)
          clear hgx hxx hx hdd hnot hst hni
          go_wp2
          apply wp_loose 18 [.v _, .v _, .v _, .v _, .v _, .v _, .v _, .v _, .v _, .v _, .v _, .v _, .v _, .v _, .v _, .v _, .v _, .v _] (by kernel_rfl) (by kernel_rfl) (by kernel_rfl) (by decide) rfl
          intro K hK
          iterate 16 (apply OblS.val (by kernel_rfl); (intro w' hb _; have := (H5r.out.after hb).cell; have := HCl.out w' hb; have := HCi.out w' hb; go_simp; rfl))
          apply OblS.call 93 (by kernel_rfl)
          · intro w' hb _; apply Exists.intro; apply And.intro; (go_simp; rfl); refine (HPw.out w').mono ?_; rintro e w2 ⟨rfl, rfl⟩; exact ⟨rfl, Below.refl _ _⟩
          apply OblS.val (v := .int .i64 (x2 + q)) (by kernel_rfl)
          · intro w' hb _; go_simp; rw [IntKind.wrap_i64]; omega
          apply OblS.nil
          apply hK
          intro w4 hb hH
          clear hH hK K
          simp only [Act.put, List.setIfInBounds_toArray, List.set_cons_zero, List.set_cons_succ, List.drop_succ_cons, List.drop_zero]
          have HB4 := Lib.hid (nextB HB.out hb); have H54 := Lib.hid (H5r.out.after hb); have H44 := Lib.hid (H4r.out.after hb); have HS4 := Lib.hid (HSet.out w4 hb)
          have q1 := HCl.out w4 hb; have q2 := HFz.out w4 hb
          have hgl2 : g6 < w4.heap.size := Nat.lt_of_lt_of_le hgl hb.size
          clear hb cr
          go_wp2
          go_roundw
          case rel => exact ⟨i + 1, by omega, by go_num, setB HB4.out (by simp; omega) _, H54.out.far (by simp; omega) _, H44.out.far (by simp; omega) _, HS4.out⟩
          case measure => first | (simp [intOf]; done) | (simp [intOf]; omega)
        · have hie : i = n := by omega
          subst hie
          have HE := Lib.hid (show ts.take i = ts from List.take_of_length_le (by rw [HN.out]; exact Nat.le_refl _))
          rw [HE.out] at HO
          have HSl := Lib.hid (show ∀ cs, SlOf La.cs 3 (wr.setRow (w.heap.size + 1) cs) (some ⟨g6, 0, none⟩) j (takenL ls k ts) from fun cs => by
            obtain ⟨A', c', e1, h1, _⟩ := (HO.out.setRowFar H4r.out (by decide) cs).sl
            simp only [Value.slice.injEq] at e1
            obtain ⟨rfl, e2, _⟩ := e1
            rw [e2]; exact h1)
          go_wp2_with (first
            | (refine wpList_load_row rfl 25 _ rfl (w.heap.size + 1 + 1) rfl 25 _ (0, 0) _ H5r.out Tryz.underlying25 rfl (by kernel_rfl) ?_)
            | (refine wpList_store_all rfl 25 _ _ rfl (w.heap.size + 1) rfl _ rfl 25 _ H4r.out (by kernel_rfl) rfl (by simp [Value.oneCell']) ?_))
          exact bodyPost_ret (results_cell_row rfl _ _ (w.heap.size + 1) 25 _ (0, 0) _ rfl (H4r.out.setRow _) Tryz.underlying25 rfl (by kernel_rfl)) rfl ⟨_, _, rfl, HSl.out _, rowB HB.out (by omega) _⟩
end Go.Proofs
namespace Go.Proofs
open Go.RowKit Go.Shelf
attribute [local go_sem ↓] Go.wp_at_zero Go.wp_at_succ

/-- The specification's order of lists. -/
theorem before_c (A B : Option Addr) (n m c d : Nat) (xs ys : List Int) (hn : n ≤ 1000000) (w : World) (hA : SlOf inC 1 w A n xs) (hB : SlOf inC 1 w B m ys) :
    Calls Tryz.prog 46 #[.slice A n c, .slice B m d] w fun e w' => e = .returned (.bool (befB xs ys)) ∧ Below w.heap.size w w' := by
  have HA := Lib.hid hA; have HB := Lib.hid hB; have HN := Lib.hid hA.1; have HM := Lib.hid hB.1
  clear hA hB
  go_enter Tryz.func46, Tryz.ntmps46
  go_wp2
  go_loopw [5] (fun v wr => ∃ k : Nat, k ≤ n ∧ k ≤ m ∧ v = .int .i64 k ∧ xs.take k = ys.take k ∧ Below w.heap.size w wr) (fun v _ => n - (intOf v).toNat)
  case atStart => exact ⟨0, by omega, by omega, rfl, rfl, Below.refl _ _⟩
  case round =>
    obtain ⟨k, hk, hkm, rfl, hT, hBw⟩ := hrel
    have HT := Lib.hid hT; have HBw := Lib.hid hBw
    have HBf := Lib.hid (show befB xs ys = befB (xs.drop k) (ys.drop k) by
      have := bef_app (xs.take k) (xs.drop k) (ys.drop k)
      rw [List.take_append_drop, hT, List.take_append_drop] at this
      exact this)
    clear hT hBw
    by_cases hkn : k < n
    · by_cases hkm2 : k < m
      · have hkx : k < xs.length := by rw [HN.out]; exact hkn
        have hky : k < ys.length := by rw [HM.out]; exact hkm2
        obtain ⟨b1, o1, rfl⟩ := HA.out.addr (by omega)
        obtain ⟨b2, o2, rfl⟩ := HB.out.addr (by omega)
        have hx := List.getElem?_eq_getElem hkx
        have hy := List.getElem?_eq_getElem hky
        have HTx := Lib.hid (List.take_append_getElem hkx); have HTy := Lib.hid (List.take_append_getElem hky)
        have HDx := Lib.hid (List.drop_eq_getElem_cons hkx); have HDy := Lib.hid (List.drop_eq_getElem_cons hky)
        obtain ⟨x, hxx⟩ : ∃ x, x = xs[k] := ⟨_, rfl⟩
        obtain ⟨y, hyy⟩ : ∃ y, y = ys[k] := ⟨_, rfl⟩
        rw [← hxx] at hx HTx HDx
        rw [← hyy] at hy HTy HDy
        have C1 := Lib.hid fun (W : World) (hb : Below wr.heap.size wr W) => (by have := ((HA.out.keep HBw.out).keep hb).range inC_len hx 0 _ rfl; simpa using this : W.cell? ⟨b1, o1 + k, none⟩ = some (.int .i64 x))
        have C2 := Lib.hid fun (W : World) (hb : Below wr.heap.size wr W) => (by have := ((HB.out.keep HBw.out).keep hb).range inC_len hy 0 _ rfl; simpa using this : W.cell? ⟨b2, o2 + k, none⟩ = some (.int .i64 y))
        clear hx hy hxx hyy
        go_wp2
        by_cases hxy : x = y
        · have e1 : (x != y) = false := by simp [hxy]
          apply wp_loose 9 [.v _, .v _, .v _, .v _, .v _, .v _, .v _, .v _, .v (.bool false)] (by kernel_rfl) (by kernel_rfl) (by kernel_rfl) (by decide) rfl
          intro K hK
          iterate 8 (apply OblS.val rfl; (intro w' hb _; have := C1.out w' hb; have := C2.out w' hb; go_simp; rfl))
          apply OblS.val rfl
          · intro w' hb _; go_simp
          apply OblS.nil
          apply hK
          intro w2 hb hH
          have B2 := Lib.hid (nextB HBw.out hb)
          clear hH hK K hb
          simp only [Act.put, List.setIfInBounds_toArray, List.set_cons_zero, List.set_cons_succ, List.drop_succ_cons, List.drop_zero]
          go_wp2
          go_roundw
          case rel => exact ⟨k + 1, by omega, by omega, by go_num, by rw [← HTx.out, ← HTy.out, HT.out, hxy], B2.out⟩
          case measure => first | (simp [intOf]; done) | (simp [intOf]; omega)
        · have e1 : (x != y) = true := by simp [hxy]
          have HF := Lib.hid (show befB xs ys = decide (x < y) by rw [HBf.out, HDx.out, HDy.out]; simp only [befB, hxy, if_false])
          clear hxy
          apply wp_loose 9 [.v _, .v _, .v _, .v _, .v _, .v _, .v _, .v _, .v (.bool true)] (by kernel_rfl) (by kernel_rfl) (by kernel_rfl) (by decide) rfl
          intro K hK
          iterate 8 (apply OblS.val rfl; (intro w' hb _; have := C1.out w' hb; have := C2.out w' hb; go_simp; rfl))
          apply OblS.val rfl
          · intro w' hb _; go_simp
          apply OblS.nil
          apply hK
          intro w2 hb hH
          have HB2 := Lib.hid hb
          clear hH hK K hb
          simp only [Act.put, List.setIfInBounds_toArray, List.set_cons_zero, List.set_cons_succ, List.drop_succ_cons, List.drop_zero]
          go_wp2
          apply wp_loose 10 [.v _, .v _, .v _, .v _, .v _, .v _, .v _, .v _, .v (.bool (decide (x < y))), .v _] (by kernel_rfl) (by kernel_rfl) (by kernel_rfl) (by decide) rfl
          intro K hK
          iterate 8 (apply OblS.val rfl; (intro w' hb _; have := C1.out w' (nextB HB2.out hb); have := C2.out w' (nextB HB2.out hb); go_simp; rfl))
          apply OblS.val rfl
          · intro w' hb _; go_simp
          apply OblS.val rfl
          · intro w' hb _; go_simp; rfl
          apply OblS.nil
          apply hK
          intro w3 hb hH
          have B3 := Lib.hid (nextB HBw.out (nextB HB2.out hb))
          clear hH hK K hb
          simp only [Act.put, List.setIfInBounds_toArray, List.set_cons_zero, List.set_cons_succ, List.drop_succ_cons, List.drop_zero]
          go_wp2
          exact bodyPost_ret (results_tmp rfl _ _ _) rfl ⟨by rw [HF.out]; rfl, B3.out⟩
      · have hke : k = m := by omega
        subst hke
        have HF := Lib.hid (show befB xs ys = false by
          rw [HBf.out, (show ys.drop k = [] from List.drop_eq_nil_of_le (by rw [HM.out]; exact Nat.le_refl _))]
          cases xs.drop k <;> rfl)
        have e2 : ¬ n < k := by omega
        have e3 : ¬ (n : Int) < (k : Int) := by omega
        go_wp2
        exact bodyPost_ret (results_tmp rfl _ _ _) rfl ⟨by rw [HF.out]; rfl, HBw.out⟩
    · have hke : k = n := by omega
      subst hke
      by_cases hkm2 : k < m
      · have HF := Lib.hid (show befB xs ys = true by
          rw [HBf.out, (show xs.drop k = [] from List.drop_eq_nil_of_le (by rw [HN.out]; exact Nat.le_refl _)), List.drop_eq_getElem_cons (by rw [HM.out]; exact hkm2)]
          rfl)
        have e3 : (k : Int) < (m : Int) := by omega
        go_wp2
        exact bodyPost_ret (results_tmp rfl _ _ _) rfl ⟨by rw [HF.out]; rfl, HBw.out⟩
      · have hke : k = m := by omega
        subst hke
        have HF := Lib.hid (show befB xs ys = false by
          rw [HBf.out, (show xs.drop k = [] from List.drop_eq_nil_of_le (by rw [HN.out]; exact Nat.le_refl _)), (show ys.drop k = [] from List.drop_eq_nil_of_le (by rw [HM.out]; exact Nat.le_refl _))]
          rfl)
        go_wp2
        exact bodyPost_ret (results_tmp rfl _ _ _) rfl ⟨by rw [HF.out]; rfl, HBw.out⟩

set_option maxHeartbeats 2000000 in
set_option maxRecDepth 20000 in
/-- The specification's season in which a person took part in just some landings: where there are none. -/
theorem refTook_0 (s : Sv) (k : Nat) (hpn : s.pn ≤ 1000) (A : Option Addr) (c : Nat) (hln0 : s.ln = 0) (w : World) (hi : s.In w) :
    Calls Tryz.prog 37 #[s.val, .int .i64 k, .slice A 0 c] w fun e w' => ∃ lA' lc', e = .returned (.agg #[.slice s.pA s.pn s.pc, .slice lA' 0 lc']) ∧ Below w.heap.size w w' := by
  obtain ⟨pA, lA, pn, pc, ln, lc, ps, ls⟩ := s
  obtain ⟨hp, hl⟩ := hi
  simp only [Sv.val] at *
  subst hln0
  have hls : ls = [] := List.eq_nil_of_length_eq_zero hl.1
  subst hls
  have HL := Lib.hid hl
  clear hp hl
  have F2 := Lib.hid ((Has.new w 25 #[.slice pA pn pc, .slice lA 0 lc]).alloc (.cells #[.slice none 0 0, .slice none 0 0] 25))
  have F4 := Lib.hid (Has.new' (w.alloc (.cells #[.slice pA pn pc, .slice lA 0 lc] 25)) 25 #[.slice none 0 0, .slice none 0 0] (g := w.heap.size + 1) (by simp))
  have B0 := Lib.hid (newB (newB (Below.refl w.heap.size w) (.cells #[.slice pA pn pc, .slice lA 0 lc] 25)) (.cells #[.slice none 0 0, .slice none 0 0] 25))
  go_enter Tryz.func37, Tryz.ntmps37
  go_wp2_with (first
    | (refine wpList_load_row rfl 25 _ rfl w.heap.size rfl 25 _ (0, 0) _ (F2.out.alloc _) Tryz.underlying25 rfl (by kernel_rfl) ?_)
    | (refine wpList_load_row rfl 25 _ rfl w.heap.size rfl 25 _ (0, 0) _ F2.out Tryz.underlying25 rfl (by kernel_rfl) ?_)
    | (refine wpList_store_all rfl 25 _ _ rfl (w.heap.size + 1 + 1) rfl _ rfl 25 _ (Has.new' _ _ _ (by simp)) (by kernel_rfl) rfl (by simp [Value.oneCell']) ?_; refine Hold.out ?_))
  refine ⟨?_⟩
  have hz : ((w.alloc (.cells #[.slice pA pn pc, .slice lA 0 lc] 25)).alloc (.cells #[.slice none 0 0, .slice none 0 0] 25)).heap.size = w.heap.size + 1 + 1 := by simp
  generalize (w.alloc (.cells #[.slice pA pn pc, .slice lA 0 lc] 25)).alloc (.cells #[.slice none 0 0, .slice none 0 0] 25) = W0 at *
  have F5 := Lib.hid ((Has.new' W0 25 #[.slice none 0 0, .slice none 0 0] hz).setRow #[.slice pA pn pc, .slice lA 0 lc])
  have B5 := Lib.hid (rowB (newB B0.out (.cells #[.slice none 0 0, .slice none 0 0] 25)) (g := w.heap.size + 1 + 1) (by omega) #[.slice pA pn pc, .slice lA 0 lc])
  have F25 := Lib.hid ((F2.out.alloc (.cells #[.slice none 0 0, .slice none 0 0] 25)).setRow_far (k := w.heap.size + 1 + 1) (by omega) #[.slice pA pn pc, .slice lA 0 lc])
  have F45 := Lib.hid ((F4.out.alloc (.cells #[.slice none 0 0, .slice none 0 0] 25)).setRow_far (k := w.heap.size + 1 + 1) (by omega) #[.slice pA pn pc, .slice lA 0 lc])
  have hz1 : ((W0.alloc (.cells #[.slice none 0 0, .slice none 0 0] 25)).setRow (w.heap.size + 1 + 1) #[.slice pA pn pc, .slice lA 0 lc]).heap.size = w.heap.size + 3 := by simp [hz]
  generalize (W0.alloc (.cells #[.slice none 0 0, .slice none 0 0] 25)).setRow (w.heap.size + 1 + 1) #[.slice pA pn pc, .slice lA 0 lc] = W1 at *
  have c1 := F25.out.cell
  have c5 := F5.out.cell; have f5 := F5.out.frozen; have z5 := F5.out.lt
  clear hz
  cases lA with
  | none =>
    go_wp2
    have H57 := Lib.hid (show Has (W1.setCell ⟨w.heap.size + 1 + 1, 1, none⟩ (.slice none 0 0)) (w.heap.size + 1 + 1) 25 #[.slice pA pn pc, .slice none 0 0] from F5.out.set 1 _)
    have HB7 := Lib.hid (setB B5.out (p := ⟨w.heap.size + 1 + 1, 1, none⟩) (by simp; omega) (.slice none 0 0))
    have H47 := Lib.hid (F45.out.far (p := ⟨w.heap.size + 1 + 1, 1, none⟩) (by simp) (.slice none 0 0))
    generalize W1.setCell ⟨w.heap.size + 1 + 1, 1, none⟩ (.slice none 0 0) = W7 at *
    have cr := H57.out.cell
    go_loop [8] (fun v => v = .int .i64 0) (fun _ => 0)
    case atStart => rfl
    case round =>
      subst hrel
      go_wp2
      go_loop [9] (fun v => v = .int .i64 0) (fun _ => 0)
      case atStart => rfl
      case round =>
        subst hrel
        go_wp2_with (first
          | (refine wpList_load_row rfl 25 _ rfl (w.heap.size + 1 + 1) rfl 25 _ (0, 0) _ H57.out Tryz.underlying25 rfl (by kernel_rfl) ?_)
          | (refine wpList_store_all rfl 25 _ _ rfl (w.heap.size + 1) rfl _ rfl 25 _ H47.out (by kernel_rfl) rfl (by simp [Value.oneCell']) ?_))
        exact bodyPost_ret (results_cell_row rfl _ _ (w.heap.size + 1) 25 _ (0, 0) _ rfl (H47.out.setRow _) Tryz.underlying25 rfl (by kernel_rfl)) rfl ⟨⟨_, _, rfl⟩, rowB HB7.out (by omega) _⟩
  | some ad =>
    go_wp2_with (at_builtin; refine Hold.out ?_)
    refine ⟨?_⟩
    refine El.appMany eL_ok rfl _ _ rfl (w.heap.size + 3) (.slice none 0 0) [] rfl (Own.nil _ _ _) ad 0 lc [] rfl (HL.out.keep B5.out) (by simp) (by omega) ?_
    intro v6 w6 ho6 hb6 hs6
    obtain ⟨A6, c6, rfl, _, _⟩ := ho6.sl
    simp only [List.append_nil, List.length_nil] at ho6 ⊢
    have H5 := Lib.hid (show Has w6 (w.heap.size + 1 + 1) 25 #[.slice pA pn pc, .slice (some ad) 0 lc] from (hb6.block (w.heap.size + 1 + 1) (by omega)).trans F5.out)
    have H4 := Lib.hid (show Has w6 (w.heap.size + 1) 25 #[.slice none 0 0, .slice none 0 0] from (hb6.block (w.heap.size + 1) (by omega)).trans F45.out)
    have HB6 := Lib.hid (B5.out.trans (hb6.mono (by omega)))
    clear c5 f5 z5 c1 hs6 hb6 ho6
    have c5 := H5.out.cell; have f5 := H5.out.frozen; have z5 := H5.out.lt
    have HB7 := Lib.hid (setB HB6.out (p := ⟨w.heap.size + 1 + 1, 1, none⟩) (by simp; omega) (.slice A6 0 c6))
    have H57 := Lib.hid (show Has (w6.setCell ⟨w.heap.size + 1 + 1, 1, none⟩ (.slice A6 0 c6)) (w.heap.size + 1 + 1) 25 #[.slice pA pn pc, .slice A6 0 c6] from H5.out.set 1 _)
    have H47 := Lib.hid (H4.out.far (p := ⟨w.heap.size + 1 + 1, 1, none⟩) (by simp) (.slice A6 0 c6))
    go_wp2
    generalize w6.setCell ⟨w.heap.size + 1 + 1, 1, none⟩ (.slice A6 0 c6) = W7 at *
    have cr := H57.out.cell
    go_loop [8] (fun v => v = .int .i64 0) (fun _ => 0)
    case atStart => rfl
    case round =>
      subst hrel
      go_wp2
      go_loop [9] (fun v => v = .int .i64 0) (fun _ => 0)
      case atStart => rfl
      case round =>
        subst hrel
        go_wp2_with (first
          | (refine wpList_load_row rfl 25 _ rfl (w.heap.size + 1 + 1) rfl 25 _ (0, 0) _ H57.out Tryz.underlying25 rfl (by kernel_rfl) ?_)
          | (refine wpList_store_all rfl 25 _ _ rfl (w.heap.size + 1) rfl _ rfl 25 _ H47.out (by kernel_rfl) rfl (by simp [Value.oneCell']) ?_))
        exact bodyPost_ret (results_cell_row rfl _ _ (w.heap.size + 1) 25 _ (0, 0) _ rfl (H47.out.setRow _) Tryz.underlying25 rfl (by kernel_rfl)) rfl ⟨⟨_, _, rfl⟩, rowB HB7.out (by omega) _⟩
end Go.Proofs
namespace Go.Proofs
open Go.RowKit Go.Shelf
attribute [local go_sem ↓] Go.wp_at_zero Go.wp_at_succ

/-- The specification's season in which a person took part in just some landings. -/
theorem refTook_c (s : Sv) (hs : Seas s.ps s.ls) (k : Nat) (hk : k < s.pn) (hk0 : k ≠ 0) (A : Option Addr) (n c : Nat) (ts : List Nat) (hnd : ts.Nodup) (hd : ∀ t ∈ ts, t < s.ln) (hn6 : n ≤ 1000000) (w : World) (hi : s.In w) (hA : SlOf inC 1 w A n (ints ts)) :
    Calls Tryz.prog 37 #[s.val, .int .i64 k, .slice A n c] w fun e w' => ∃ lA' lc', e = .returned (.agg #[.slice s.pA s.pn s.pc, .slice lA' s.ln lc']) ∧ SlOf La.cs 3 w' lA' s.ln (takenL s.ls k ts) ∧ Below w.heap.size w w' := by
  rcases Nat.eq_zero_or_pos s.ln with h0 | h0
  · have hts : ts = [] := by
      cases ts with
      | nil => rfl
      | cons t r => have := hd t (by simp); omega
    subst hts
    have hn : n = 0 := by have := hA.1; simpa [ints] using this.symm
    subst hn
    have hls : s.ls = [] := List.eq_nil_of_length_eq_zero (by rw [hi.ls.1]; exact h0)
    have hp6 : s.pn ≤ 6 := by rw [← hi.ps.1]; exact hs.six
    refine (refTook_0 s k (by omega) A c h0 w hi).mono ?_
    rintro e w' ⟨lA', lc', rfl, hb⟩
    refine ⟨lA', lc', by rw [h0], ?_, hb⟩
    rw [hls, h0]
    exact ⟨rfl, by simp [takenL, flat], fun h => absurd h (by omega)⟩
  · exact refTook_1 s hs k hk hk0 A n c ts hnd hd hn6 h0 w hi hA

/-- Increasing numbers of landings. -/
def incB (n : Nat) (xs : List Int) : Bool := (List.range xs.length).all fun i => inB (xs.getD i 0) 0 ((n : Int) - 1) && (i == 0 || decide (xs.getD (i - 1) 0 < xs.getD i 0))
def incAt (n : Nat) (xs : List Int) (i : Nat) : Bool := inB (xs.getD i 0) 0 ((n : Int) - 1) && (i == 0 || decide (xs.getD (i - 1) 0 < xs.getD i 0))
theorem incB_no {n : Nat} {xs : List Int} {k : Nat} (hk : k < xs.length) (h : incAt n xs k = false) : incB n xs = false := by
  unfold incB; rw [List.all_eq_false]; exact ⟨k, List.mem_range.2 hk, by rw [show (inB (xs.getD k 0) 0 ((n : Int) - 1) && (k == 0 || decide (xs.getD (k - 1) 0 < xs.getD k 0))) = incAt n xs k from rfl, h]; decide⟩
theorem incB_yes {n : Nat} {xs : List Int} (h : ∀ k, k < xs.length → incAt n xs k = true) : incB n xs = true := by
  unfold incB; rw [List.all_eq_true]; exact fun k hk => h k (List.mem_range.1 hk)
set_option maxHeartbeats 4000000 in
set_option maxRecDepth 20000 in
theorem isTrips_c (s : Sv) (A : Option Addr) (n c : Nat) (xs : List Int) (hl : s.ln ≤ 1000) (hn : n ≤ 1000000) (w : World) (hi : s.In w) (hA : SlOf inC 1 w A n xs) :
    Calls Tryz.prog 45 #[s.val, .slice A n c] w fun e w' => e = .returned (.bool (incB s.ln xs)) ∧ Below w.heap.size w w' := by
  obtain ⟨pA, lA, pn, pc, ln, lc, ps, ls⟩ := s
  simp only [Sv.val] at *
  have B1 := Lib.hid (newB (Below.refl w.heap.size w) (.cells #[.slice pA pn pc, .slice lA ln lc] 25))
  have HX := Lib.hid (hA.keep B1.out)
  have HN := Lib.hid hA.1
  have F1 := Lib.hid (Has.new w 25 #[.slice pA pn pc, .slice lA ln lc])
  have e0 : wrap64 ((ln : Int) - 1) = (ln : Int) - 1 := w64 (by omega) (by omega)
  clear hi hA
  go_enter Tryz.func45, Tryz.ntmps45
  go_wp2
  generalize w.alloc (.cells #[.slice pA pn pc, .slice lA ln lc] 25) = w1 at *
  go_loopw [5] (fun i wr => ∃ k : Nat, k ≤ n ∧ i = .int .i64 k ∧ (∀ j, j < k → incAt ln xs j = true) ∧ Below w1.heap.size w1 wr) (fun i _ => n - (intOf i).toNat)
  case atStart => exact ⟨0, by omega, rfl, fun j hj => absurd hj (by omega), Below.refl _ _⟩
  case round =>
    obtain ⟨k, hk, rfl, hY, hB⟩ := hrel
    have HY := Lib.hid hY; have HB := Lib.hid hB
    clear hY hB
    by_cases hkn : k < n
    · have hkx : k < xs.length := by rw [HN.out]; exact hkn
      have hx := List.getElem?_eq_getElem hkx
      obtain ⟨x, hxx⟩ : ∃ x, x = xs[k] := ⟨_, rfl⟩
      rw [← hxx] at hx
      obtain ⟨b, o, he⟩ := HX.out.addr (by omega)
      subst he
      have hgx : xs.getD k 0 = x := by simp [List.getD_eq_getElem?_getD, hx]
      have HI := Lib.hid fun (W : World) => refIn_c x 0 ((ln : Int) - 1) W
      have HN1 := Lib.hid (show incAt ln xs k = false → incB ln xs = false from fun h => incB_no hkx h)
      have HS := Lib.hid (show incAt ln xs k = true → ∀ j, j < k + 1 → incAt ln xs j = true from fun h j hj => by
        rcases Nat.lt_succ_iff_lt_or_eq.1 hj with h' | rfl
        · exact HY.out j h'
        · exact h)
      have M := Lib.hid fun (W : World) (hb : Below wr.heap.size wr W) => (show (∀ i, W.cell? ⟨w.heap.size, i, none⟩ = (#[.slice pA pn pc, .slice lA ln lc] : Array Value)[i]?) ∧ W.cell? ⟨b, o + k, none⟩ = some (.int .i64 x) from
        ⟨(F1.out.after (nextB HB.out hb)).cell, by have := ((HX.out.keep HB.out).keep hb).range inC_len hx 0 _ rfl; simpa using this⟩)
      cases c1 : inB x 0 ((ln : Int) - 1)
      · have HE := Lib.hid (HN1.out (by unfold incAt; rw [hgx, c1]; rfl))
        rw [c1] at HI
        clear c1 hx hxx HN1 HS hgx
        go_wp2
        apply wp_loose 26 [.v _, .v _, .v _, .v _, .v _, .v _, .v _, .v _, .v _, .v _, .v _, .v _, .v _, .v _, .v _, .v _, .v _, .v _, .v _, .v _, .v _, .v _, .v _, .v _, .v _, .v _] (by kernel_rfl) (by kernel_rfl) (by kernel_rfl) (by decide) rfl
        intro K hK
        iterate 7 (apply OblS.val (by kernel_rfl); (intro w' hb _; obtain ⟨q1, q2⟩ := M.out w' hb; go_simp; rfl))
        apply OblS.val (v := .int .i64 ((ln : Int) - 1)) (by kernel_rfl)
        · intro w' hb _; go_simp; rw [IntKind.wrap_i64]; omega
        simp only [Act.put, List.setIfInBounds_toArray, List.set_cons_zero, List.set_cons_succ]
        apply OblS.call 82 (by kernel_rfl)
        · intro w' hb _; apply Exists.intro; apply And.intro; (go_simp; rfl); refine (HI.out w').mono ?_; rintro e w2 ⟨rfl, rfl⟩; exact ⟨rfl, Below.refl _ _⟩
        iterate 2 (apply OblS.val (by kernel_rfl); (intro w' hb _; go_simp; rfl))
        iterate 14 (apply OblS.skip (by kernel_rfl))
        apply OblS.val (v := .bool true) (by kernel_rfl)
        · intro w' hb _; go_simp
        apply OblS.nil
        apply hK
        intro w4 hb hH
        clear hH hK K
        simp only [Act.put, List.setIfInBounds_toArray, List.set_cons_zero, List.set_cons_succ, List.drop_succ_cons, List.drop_zero]
        have B4 := Lib.hid (nextB B1.out (nextB HB.out hb))
        clear hb
        go_wp2
        exact bodyPost_ret (results_tmp rfl _ _ _) rfl ⟨by rw [HE.out]; rfl, B4.out⟩
      · rw [c1] at HI
        by_cases hk0 : 0 < k
        · have g1 : (0 : Int) < (k : Int) := by omega
          have g2 : wrap64 ((k : Int) - 1) = ((k - 1 : Nat) : Int) := by rw [w64 (by omega) (by omega)]; omega
          have g3 : IntKind.i64.wrap ((k : Int) - 1) = ((k - 1 : Nat) : Int) := by rw [IntKind.wrap_i64]; omega
          have hky : k - 1 < xs.length := by omega
          have hy := List.getElem?_eq_getElem hky
          obtain ⟨y, hyy⟩ : ∃ y, y = xs[k - 1] := ⟨_, rfl⟩
          rw [← hyy] at hy
          have hgy : xs.getD (k - 1) 0 = y := by simp [List.getD_eq_getElem?_getD, hy]
          have M2 := Lib.hid fun (W : World) (hb : Below wr.heap.size wr W) => (show W.cell? ⟨b, o + (k - 1), none⟩ = some (.int .i64 y) from by have := ((HX.out.keep HB.out).keep hb).range inC_len hy 0 _ rfl; simpa using this)
          have hk1 : k - 1 < n := by omega
          have HC := Lib.hid (show incAt ln xs k = decide (y < x) by unfold incAt; rw [hgx, hgy, c1]; simp; omega)
          obtain ⟨bl, hbl⟩ : ∃ bl, bl = decide (x ≤ y) := ⟨_, rfl⟩
          have HBl := Lib.hid hbl
          clear c1 hx hxx hgx hy hyy hgy hbl
          generalize hkk : k - 1 = k1 at *
          have HK1 := Lib.hid hkk
          clear hkk
          go_wp2
          apply wp_loose 26 [.v _, .v _, .v _, .v _, .v _, .v _, .v _, .v _, .v _, .v _, .v _, .v _, .v _, .v _, .v _, .v _, .v _, .v _, .v _, .v _, .v _, .v _, .v _, .v _, .v _, .v _] (by kernel_rfl) (by kernel_rfl) (by kernel_rfl) (by decide) rfl
          intro K hK
          iterate 7 (apply OblS.val (by kernel_rfl); (intro w' hb _; obtain ⟨q1, q2⟩ := M.out w' hb; go_simp; rfl))
          apply OblS.val (v := .int .i64 ((ln : Int) - 1)) (by kernel_rfl)
          · intro w' hb _; go_simp; rw [IntKind.wrap_i64]; omega
          simp only [Act.put, List.setIfInBounds_toArray, List.set_cons_zero, List.set_cons_succ]
          apply OblS.call 82 (by kernel_rfl)
          · intro w' hb _; apply Exists.intro; apply And.intro; (go_simp; rfl); refine (HI.out w').mono ?_; rintro e w2 ⟨rfl, rfl⟩; exact ⟨rfl, Below.refl _ _⟩
          iterate 3 (apply OblS.val (by kernel_rfl); (intro w' hb _; go_simp; rfl))
          iterate 2 (apply OblS.val (v := .bool true) (by kernel_rfl); (intro w' hb _; go_simp))
          iterate 6 (apply OblS.val (by kernel_rfl); (intro w' hb _; obtain ⟨q1, q2⟩ := M.out w' hb; go_simp; rfl))
          apply OblS.val (v := .int .i64 (k1 : Int)) (by kernel_rfl)
          · intro w' hb _; go_simp
          iterate 2 (apply OblS.val (by kernel_rfl); (intro w' hb _; have q3 := M2.out w' hb; go_simp; rfl))
          apply OblS.val (v := .bool bl) (by kernel_rfl)
          · intro w' hb _; have := HBl.out; go_simp
          iterate 2 (apply OblS.val (v := .bool bl) (by kernel_rfl); (intro w' hb _; go_simp))
          apply OblS.nil
          apply hK
          intro w4 hb hH
          clear hH hK K
          simp only [Act.put, List.setIfInBounds_toArray, List.set_cons_zero, List.set_cons_succ, List.drop_succ_cons, List.drop_zero]
          have B4 := Lib.hid (nextB HB.out hb)
          clear hb
          cases hb2 : bl
          · have hxy : y < x := by have := HBl.out; rw [hb2] at this; simp at this; omega
            have HY2 := Lib.hid (HS.out (by rw [HC.out]; exact decide_eq_true hxy))
            subst hb2
            clear HBl
            go_wp2
            go_roundw
            case rel => exact ⟨k + 1, by omega, by go_num, HY2.out, B4.out⟩
            case measure => first | (simp [intOf]; done) | (simp [intOf]; omega)
          · have hxy : ¬ y < x := by have := HBl.out; rw [hb2] at this; simp at this; omega
            have HE := Lib.hid (HN1.out (by rw [HC.out]; exact decide_eq_false hxy))
            subst hb2
            clear HBl hxy
            go_wp2
            exact bodyPost_ret (results_tmp rfl _ _ _) rfl ⟨by rw [HE.out]; rfl, nextB B1.out B4.out⟩
        · have g1 : ¬ (0 : Int) < (k : Int) := by omega
          have HY2 := Lib.hid (HS.out (by unfold incAt; rw [hgx, c1]; have : k = 0 := by omega
                                          simp [this]))
          clear c1 hx hxx hgx
          go_wp2
          apply wp_loose 26 [.v _, .v _, .v _, .v _, .v _, .v _, .v _, .v _, .v _, .v _, .v _, .v _, .v _, .v _, .v _, .v _, .v _, .v _, .v _, .v _, .v _, .v _, .v _, .v _, .v _, .v _] (by kernel_rfl) (by kernel_rfl) (by kernel_rfl) (by decide) rfl
          intro K hK
          iterate 7 (apply OblS.val (by kernel_rfl); (intro w' hb _; obtain ⟨q1, q2⟩ := M.out w' hb; go_simp; rfl))
          apply OblS.val (v := .int .i64 ((ln : Int) - 1)) (by kernel_rfl)
          · intro w' hb _; go_simp; rw [IntKind.wrap_i64]; omega
          simp only [Act.put, List.setIfInBounds_toArray, List.set_cons_zero, List.set_cons_succ]
          apply OblS.call 82 (by kernel_rfl)
          · intro w' hb _; apply Exists.intro; apply And.intro; (go_simp; rfl); refine (HI.out w').mono ?_; rintro e w2 ⟨rfl, rfl⟩; exact ⟨rfl, Below.refl _ _⟩
          iterate 3 (apply OblS.val (by kernel_rfl); (intro w' hb _; go_simp; rfl))
          iterate 2 (apply OblS.val (v := .bool false) (by kernel_rfl); (intro w' hb _; go_simp))
          iterate 10 (apply OblS.skip (by kernel_rfl))
          iterate 2 (apply OblS.val (v := .bool false) (by kernel_rfl); (intro w' hb _; go_simp))
          apply OblS.nil
          apply hK
          intro w4 hb hH
          clear hH hK K
          simp only [Act.put, List.setIfInBounds_toArray, List.set_cons_zero, List.set_cons_succ, List.drop_succ_cons, List.drop_zero]
          have B4 := Lib.hid (nextB HB.out hb)
          clear hb
          go_wp2
          go_roundw
          case rel => exact ⟨k + 1, by omega, by go_num, HY2.out, B4.out⟩
          case measure => first | (simp [intOf]; done) | (simp [intOf]; omega)
    · have hke : k = n := by omega
      subst hke
      have HE := Lib.hid (incB_yes (n := ln) (xs := xs) (by rw [HN.out]; exact HY.out))
      go_wp2
      exact bodyPost_ret (results_tmp rfl _ _ _) rfl ⟨by rw [HE.out]; rfl, nextB B1.out HB.out⟩
end Go.Proofs
namespace Go.Proofs
open Go.RowKit Go.Shelf
attribute [local go_sem ↓] Go.wp_at_zero Go.wp_at_succ

end Go.Proofs
namespace Go.Proofs
open Go.RowKit Go.Shelf
attribute [local go_sem ↓] Go.wp_at_zero Go.wp_at_succ

end Go.Proofs
