/-
  Contracts of the law's narrow, and what numbers that are known better mean, hold where table, man and dive are as defined.
-/
import Derived.Test.YtahochgbkhpefabGreatDoorP16
import Derived.Test.YtahochgbkhpefabGreatDoorP14
import Derived.Deep.Cut
import Derived.Deep.CutRange
namespace Go.Proofs
open Go.RowKit Go.Shelf Gas
attribute [local go_sem ↓] Go.wp_at_zero Go.wp_at_succ

/-- A list of which the things before number k are changed. -/
def updL {α : Type} (f : α → α) (k : Nat) (xs : List α) : List α := xs.mapIdx fun i x => if i < k then f x else x
section
variable {α : Type} {f : α → α} {xs : List α} {k : Nat}
theorem updL_len : (updL f k xs).length = xs.length := by simp [updL]
theorem updL_at (j : Nat) : (updL f k xs)[j]? = xs[j]?.map fun x => if j < k then f x else x := by simp [updL]
theorem updL_zero : updL f 0 xs = xs := by
  apply List.ext_getElem?
  intro j
  rw [updL_at]; simp
theorem updL_full (h : xs.length ≤ k) : updL f k xs = xs.map f := by
  apply List.ext_getElem?
  intro j
  rw [updL_at, List.getElem?_map]
  by_cases hj : j < xs.length
  · simp [show j < k by omega]
  · rw [List.getElem?_eq_none (by omega)]; rfl
theorem updL_get {x : α} (hx : xs[k]? = some x) : (updL f k xs)[k]? = some x := by rw [updL_at, hx]; simp
theorem updL_set {x : α} (hx : xs[k]? = some x) : (updL f k xs).set k (f x) = updL f (k + 1) xs := by
  apply List.ext_getElem?
  intro j
  rw [updL_at, List.getElem?_set]
  by_cases hj : k = j
  · subst hj
    have hk := (List.getElem?_eq_some_iff.1 hx).1
    rw [hx]; simp [updL_len, hk]
  · rw [if_neg hj, updL_at]
    cases h : xs[j]? with
    | none => rfl
    | some y =>
      simp only [Option.map_some]
      by_cases h1 : j < k
      · simp [h1, show j < k + 1 by omega]
      · simp [h1, show ¬ j < k + 1 by omega]
end

theorem RowOf.pairs {w : World} {g n : Nat} {t : TypeId} {xs : List Pr} {cur : Array Value} (h3 : ∀ (j : Nat) u, (flat prC xs)[j]? = some u → cur[j]? = some u) {k : Nat} {x : Pr} (hx : xs[k]? = some x) : cur[k * 2]? = some (.int .i64 x.1) ∧ cur[k * 2 + 1]? = some (.int .i64 x.2) :=
  ⟨h3 _ _ (by simpa using flat_at prC_len xs k x hx 0 _ rfl), h3 _ _ (flat_at prC_len xs k x hx 1 _ rfl)⟩
/-- One number of a pair is changed. -/
theorem RowOf.setA {w : World} {g n : Nat} {t : TypeId} {xs : List Pr} (h : RowOf prC 2 w g t n xs) {k : Nat} {a b : Int} (hx : xs[k]? = some (a, b)) (v : Int) : RowOf prC 2 (w.setCell ⟨g, k * 2, none⟩ (.int .i64 v)) g t n (xs.set k (v, b)) := by
  obtain ⟨cur, h1, h2, h3⟩ := h
  have hk := (List.getElem?_eq_some_iff.1 hx).1
  have p0 := RowOf.pairs (w := w) (g := g) (n := n) (t := t) h3 hx
  refine RowOf.of_pairs (h1.set (k * 2) (.int .i64 v)) (by simpa using h2) (fun j x hj => ?_)
  rw [List.getElem?_set] at hj
  by_cases e : k = j
  · subst e
    simp only [if_true, hk] at hj
    cases hj
    exact ⟨by rw [Array.getElem?_setIfInBounds]; simp [(Array.getElem?_eq_some_iff.1 p0.1).1], by rw [Array.getElem?_setIfInBounds, if_neg (by omega)]; exact p0.2⟩
  · rw [if_neg e] at hj
    have pj := RowOf.pairs (w := w) (g := g) (n := n) (t := t) h3 hj
    exact ⟨by rw [Array.getElem?_setIfInBounds, if_neg (by omega)]; exact pj.1, by rw [Array.getElem?_setIfInBounds, if_neg (by omega)]; exact pj.2⟩
/-- A pair is changed. -/
theorem RowOf.setP {w : World} {g n : Nat} {t : TypeId} {xs : List Pr} {cur : Array Value} (h1 : Has w g t cur) (h2 : xs.length = n) (h3 : ∀ (j : Nat) u, (flat prC xs)[j]? = some u → cur[j]? = some u) {k : Nat} {x : Pr} (hx : xs[k]? = some x) (p : Pr) :
    k * 2 + 2 ≤ cur.size ∧ RowOf prC 2 (w.setRow g (over cur (k * 2) #[.int .i64 p.1, .int .i64 p.2])) g t n (xs.set k p) := by
  have hk := (List.getElem?_eq_some_iff.1 hx).1
  have p0 := RowOf.pairs (w := w) (g := g) (n := n) (t := t) h3 hx
  have hs : k * 2 + 2 ≤ cur.size := by have := (Array.getElem?_eq_some_iff.1 p0.2).1; omega
  refine ⟨hs, ?_⟩
  rw [over_two _ _ _ _ hs]
  refine RowOf.of_pairs (h1.setRow _) (by simpa using h2) (fun j y hj => ?_)
  rw [List.getElem?_set] at hj
  by_cases e : k = j
  · subst e
    simp only [if_true, hk] at hj
    cases hj
    exact ⟨by rw [Array.getElem?_setIfInBounds, if_neg (by omega), Array.getElem?_setIfInBounds]; simp; omega, by rw [Array.getElem?_setIfInBounds]; simp; omega⟩
  · rw [if_neg e] at hj
    have pj := RowOf.pairs (w := w) (g := g) (n := n) (t := t) h3 hj
    exact ⟨by rw [Array.getElem?_setIfInBounds, if_neg (by omega), Array.getElem?_setIfInBounds, if_neg (by omega)]; exact pj.1, by rw [Array.getElem?_setIfInBounds, if_neg (by omega), Array.getElem?_setIfInBounds, if_neg (by omega)]; exact pj.2⟩
theorem RowOf.far {w : World} {g n : Nat} {t : TypeId} {α : Type} {f : α → List Value} {sz : Nat} {xs : List α} (h : RowOf f sz w g t n xs) {p : Addr} (hp : g ≠ p.block) (u : Value) : RowOf f sz (w.setCell p u) g t n xs := by
  obtain ⟨cur, h1, h2⟩ := h
  exact ⟨cur, h1.far hp u, h2⟩
theorem RowOf.setRow_far {w : World} {g n : Nat} {t : TypeId} {α : Type} {f : α → List Value} {sz : Nat} {xs : List α} (h : RowOf f sz w g t n xs) {k : Nat} (hk : g ≠ k) (cs : Array Value) : RowOf f sz (w.setRow k cs) g t n xs := by
  obtain ⟨cur, h1, h2⟩ := h
  exact ⟨cur, h1.setRow_far hk cs, h2⟩

theorem info77 : ∃ i, Tryz.prog.info? 77 = some i ∧ i.zero = some (.agg #[.int .i64 0, .int .i64 0]) ∧ i.bytes = 16 ∧ i.size = 2 := by
  obtain ⟨i, hi⟩ : ∃ i, Tryz.prog.info? 77 = some i := Option.isSome_iff_exists.1 (by kernel_rfl)
  refine ⟨i, hi, ?_⟩
  have h := show (Tryz.prog.info? 77).map (fun i => (i.zero, i.bytes, i.size)) = some (some (.agg #[.int .i64 0, .int .i64 0]), 16, 2) by kernel_rfl
  rw [hi] at h
  simp only [Option.map_some, Option.some.injEq, Prod.mk.injEq] at h
  exact h
theorem pr_one (p : Pr) : ∀ u ∈ prC p, u.oneCell' = true := by simp [prC, Value.oneCell']
/-- append([]T(nil), xs...) of pairs: a row of its own. -/
theorem wp_copyP {o : Oper} {a : Act} {w : World} {K : Act → World → Prop} {Q : Exit → Act → World → Prop} {T E : TypeId} (s x : Operand)
    (ho : o.op = .call { callee := .builtin .append, args := #[s, x], argTypes := #[T, T] }) (hu : Tryz.prog.underlying T = some (.slice E))
    (hinfo : ∃ i, Tryz.prog.info? E = some i ∧ i.zero = some (.agg #[.int .i64 0, .int .i64 0]) ∧ i.bytes = 16 ∧ i.size = 2)
    (hs : a.eval s = .slice none 0 0) (b off m c : Nat) (xs : List Pr) (hx : a.eval x = .slice (some ⟨b, off, none⟩) m c) (hsl : SlOf prC 2 w (some ⟨b, off, none⟩) m xs) (hb : m ≤ 1000000) (h0 : 0 < m)
    (h : ∀ g cap w', RowOf prC 2 w' g E m xs → w.heap.size ≤ g → m ≤ cap → Below w.heap.size w w' → K (a.put o.dst (.slice (some ⟨g, 0, none⟩) m cap)) w') : o.wp Tryz.prog a w K Q := by
  obtain ⟨i, hi, hz, hby, hsz⟩ := hinfo
  have hm := hsl.1
  refine wp_append_own w s x T ho w.heap.size E i _ 2 16 hu hi hz hsz hby rfl (by omega) (.slice none 0 0) 0 [] hs (World.ownsRow_nil _ _ _ _) ⟨b, off, none⟩ m c (flat prC xs) hx (by rw [flat_len prC_len, hm]) ?_ (flat_one pr_one xs) (by unfold maxLen; omega) (by omega) (Nat.le_refl _)
    (fun v' w' h1 h2 _ => ?_)
  · intro j u hu'
    have hl := flat_len prC_len xs
    have hj := (List.getElem?_eq_some_iff.1 hu').1
    obtain ⟨b', o', e, hc⟩ := hsl.2.2 (by omega)
    cases e
    have := hc j u hu'
    have hadd : (⟨b, off, none⟩ : Addr).add j = ⟨b, off + j, none⟩ := by unfold Addr.add; split <;> simp_all
    rw [hadd]; exact this
  · have hbel : Below w.heap.size w w' := below_grown h2 (fun r hr => by cases hr) (Nat.le_refl _)
    rw [Nat.zero_add, List.nil_append] at h1
    rcases h1.2 with ⟨_, h⟩ | ⟨g, cap, cur, e1, q2, q3, q4, q5, q6, q7⟩
    · omega
    · subst e1
      refine h g cap w' ⟨cur, q3, hm, fun j u hu => ?_⟩ q2 q4 hbel
      rw [← q7, List.getElem?_take] at hu
      split at hu
      · rw [← Array.getElem?_toList]; exact hu
      · cases hu

set_option maxHeartbeats 1000000 in
/-- The statement's own narrow, of a span that is not too large. -/
theorem narrow_l (l g a b : Int) (hl : 0 ≤ l ∧ l ≤ g ∧ g ≤ 1000) (ha : 0 ≤ a ∧ a ≤ b ∧ b ≤ 100) (w : World) :
    Calls Tryz.prog 39 #[.agg #[.int .i64 l, .int .i64 g], .int .i64 a, .int .i64 b] w fun e w' => e = .returned (.agg #[.int .i64 (narP a b (l, g)).1, .int .i64 (narP a b (l, g)).2]) ∧ Below w.heap.size w w' := by
  have hm := fun (x : Int) (hx : 0 ≤ x ∧ x ≤ 100) => mul_le (d := g - l) (s := x) (D := 1000) (S := 100) (by omega) hx
  have m1 := hm a (by omega); have m2 := hm b (by omega)
  have e1 := narP_in (p := (l, g)) ha.1 ha.2.1 ha.2.2 hl.2.1
  simp only [narP] at e1 ⊢
  have q1 : ((g - l) * a).tdiv 100 = ((g - l) * a) / 100 := Int.tdiv_eq_ediv_of_nonneg m1.1
  have q2 : ((g - l) * b).tdiv 100 = ((g - l) * b) / 100 := Int.tdiv_eq_ediv_of_nonneg m2.1
  have w0 : IntKind.i64.wrap (g - l) = g - l := wI (by omega) (by omega)
  have w1 : IntKind.i64.wrap ((g - l) * a) = (g - l) * a := wI (by omega) (by omega)
  have w2 : IntKind.i64.wrap ((g - l) * b) = (g - l) * b := wI (by omega) (by omega)
  have w3 : IntKind.i64.wrap (((g - l) * a).tdiv 100) = ((g - l) * a).tdiv 100 := wI (by omega) (by omega)
  have w4 : IntKind.i64.wrap (((g - l) * b).tdiv 100) = ((g - l) * b).tdiv 100 := wI (by omega) (by omega)
  have w5 : IntKind.i64.wrap (l + ((g - l) * a).tdiv 100) = l + ((g - l) * a).tdiv 100 := wI (by omega) (by omega)
  have w6 : IntKind.i64.wrap (l + ((g - l) * b).tdiv 100) = l + ((g - l) * b).tdiv 100 := wI (by omega) (by omega)
  clear hm m1 m2 e1 q1 q2
  have Z := Lib.hid (Has.new' (w.alloc (.cells #[.int .i64 l, .int .i64 g] 43)) 43 #[.int .i64 0, .int .i64 0] (g := w.heap.size + 1) (by simp))
  have B0 := Lib.hid (newB (newB (Below.refl w.heap.size w) (.cells #[.int .i64 l, .int .i64 g] 43)) (.cells #[.int .i64 0, .int .i64 0] 43))
  go_enter Tryz.func39, Tryz.ntmps39
  go_wp2_with (first
    | (go_at_call 43; refine (span_c _ _ _).mono ?_; rintro e wA ⟨rfl, hb⟩; have HB := Lib.hid (nextB B0.out hb); have Z1 := Lib.hid (Z.out.after hb); clear hb)
    | (refine wpList_store_all rfl 43 _ _ rfl (w.heap.size + 1) rfl _ rfl 43 _ Z1.out (by kernel_rfl) rfl (by simp [Value.oneCell']) ?_))
  exact bodyPost_ret (results_cell_row Tryz.results39 _ _ (w.heap.size + 1) 43 _ (0, 0) _ rfl (Z1.out.setRow _) Tryz.underlying43 rfl (by kernel_rfl)) rfl ⟨rfl, rowB HB.out (by omega) _⟩
end Go.Proofs
namespace Go.Proofs
open Go.RowKit Go.Shelf Gas
attribute [local go_sem ↓] Go.wp_at_zero Go.wp_at_succ

theorem more_def {ps rs : List Pr} {ss : List Int} {dive : List St} {a b g : Int} (ha : 0 ≤ a) (hab : a ≤ b) (hb : b ≤ 100) (hg : 0 ≤ g) (h : definedB ps ss rs dive 0 = true) : definedB (ps.map (easP g)) ss (rs.map (narP a b)) (dive.map (narS a b)) 0 = true := by
  simp only [definedB, tableB, manB, diveB, Bool.and_eq_true, decide_eq_true_eq, List.length_map] at h ⊢
  obtain ⟨⟨⟨⟨⟨h1, h2⟩, h3⟩, h4⟩, h5, h6⟩, h7, h8⟩ := h
  refine ⟨⟨⟨⟨⟨h1, h2⟩, ?_⟩, h4⟩, h5, ?_⟩, h7, ?_⟩
  · rw [List.all_map, List.all_eq_true]
    intro p hp
    have h := List.all_eq_true.1 h3 p hp
    simp only [partB, inB, Bool.and_eq_true, decide_eq_true_eq] at h
    show (inB (min 20000 (p.1 + g)) 0 20000 && inB p.2 0 400) = true
    simp only [inB, Bool.and_eq_true, decide_eq_true_eq]
    omega
  · rw [List.all_map, List.all_eq_true]
    intro p hp
    have h := List.all_eq_true.1 h6 p hp
    simp only [rateB, ordB, decide_eq_true_eq] at h
    have := narP_in ha hab hb (p := p) h.2.1
    simp only [Function.comp_apply, rateB, ordB, decide_eq_true_eq]
    omega
  · rw [List.all_map, List.all_eq_true]
    intro s hs
    exact (narS_close ha hab hb (List.all_eq_true.1 h8 s hs)).2
theorem more_close {t t' : Tm} {dive : List St} {a b g : Int} (ha : 0 ≤ a) (hab : a ≤ b) (hb : b ≤ 100) (hg : 0 ≤ g) (h : definedB t.ps t.ss t.rs dive 0 = true) (hl : t.ps.length = t.pn)
    (e1 : t'.ps = t.ps.map (easP g)) (e2 : t'.ss = t.ss) (e3 : t'.rs = t.rs.map (narP a b)) (e4 : t'.pn = t.pn) : MoreSem t t' dive (dive.map (narS a b)) := by
  have h' := more_def ha hab hb hg h
  have hd := h
  simp only [definedB, tableB, manB, diveB, Bool.and_eq_true, decide_eq_true_eq] at hd
  obtain ⟨⟨⟨⟨⟨h1, h2⟩, h3⟩, h4⟩, h5, h6⟩, h7, h8⟩ := hd
  refine more_sem h (by rw [e1, e2, e3]; exact h') e4 hl e2 ⟨by rw [e1]; simp, fun k hk => ?_⟩ (fun k hk => ?_) (by simp) (fun i hi => ?_)
  · have hp := List.all_eq_true.1 h3 _ (List.getElem_mem hk)
    simp only [partB, inB, Bool.and_eq_true, decide_eq_true_eq] at hp
    rw [e1]
    simp only [List.getD_eq_getElem?_getD, List.getElem?_map, List.getElem?_eq_getElem hk, Option.map_some, Option.getD_some]
    show (t.ps[k]).1 ≤ min 20000 ((t.ps[k]).1 + g) ∧ (t.ps[k]).2 = (t.ps[k]).2 ∧ 0 ≤ (t.ps[k]).2
    omega
  · have hp := List.all_eq_true.1 h6 _ (List.getElem_mem hk)
    simp only [rateB, ordB, decide_eq_true_eq] at hp
    have := narP_in ha hab hb (p := t.rs[k]) hp.2.1
    rw [e3]
    simp only [List.getD_eq_getElem?_getD, List.getElem?_map, List.getElem?_eq_getElem hk, Option.map_some, Option.getD_some]
    exact this
  · have hp := List.all_eq_true.1 h8 _ (List.getElem_mem hi)
    have := (narS_close ha hab hb hp).1
    simp only [List.getD_eq_getElem?_getD, List.getElem?_map, List.getElem?_eq_getElem hi, Option.map_some, Option.getD_some]
    exact this

/-- The boxes of a table and a man, as a law lays them first. -/
structure Bm (w : World) (t : Tm) (W : World) : Prop where
  below : Below w.heap.size w W
  tab : Has W w.heap.size 25 #[.slice t.pA t.pn t.pc, .slice t.sA t.sn t.sc]
  man : Has W (w.heap.size + 1) 28 #[.slice t.rA t.rn t.rc]
theorem Bm.keep {w W W' : World} {t : Tm} (h : Bm w t W) (hb : Below W.heap.size W W') : Bm w t W' := ⟨nextB h.below hb, h.tab.after hb, h.man.after hb⟩
theorem Bm.start (w : World) (t : Tm) : Bm w t ((w.alloc (.cells #[.slice t.pA t.pn t.pc, .slice t.sA t.sn t.sc] 25)).alloc (.cells #[.slice t.rA t.rn t.rc] 28)) :=
  ⟨newB (newB (Below.refl _ _) _) _, (Has.new w 25 _).alloc _, Has.new' _ 28 _ (by simp)⟩
/-- The boxes of the changed ones. -/
structure Bn (w : World) (t : Tm) (P R : Value) (g1 g2 : Nat) (W : World) : Prop where
  base : Bm w t W
  lo : w.heap.size + 1 < g1 ∧ w.heap.size + 1 < g2
  tab : Has W g1 25 #[P, .slice t.sA t.sn t.sc]
  man : Has W g2 28 #[R]
theorem Bn.keep {w W W' : World} {t : Tm} {P R : Value} {g1 g2 : Nat} (h : Bn w t P R g1 g2 W) (hb : Below W.heap.size W W') : Bn w t P R g1 g2 W' := ⟨h.base.keep hb, h.lo, h.tab.after hb, h.man.after hb⟩

theorem Bn.far {w W : World} {t : Tm} {P R : Value} {g1 g2 : Nat} (h : Bn w t P R g1 g2 W) {p : Addr} (hp : w.heap.size ≤ p.block) (h1 : w.heap.size ≠ p.block) (h2 : w.heap.size + 1 ≠ p.block) (h3 : g1 ≠ p.block) (h4 : g2 ≠ p.block) (u : Value) : Bn w t P R g1 g2 (W.setCell p u) :=
  ⟨⟨setB h.base.below hp u, h.base.tab.far h1 u, h.base.man.far h2 u⟩, h.lo, h.tab.far h3 u, h.man.far h4 u⟩
theorem Bn.farRow {w W : World} {t : Tm} {P R : Value} {g1 g2 g : Nat} (h : Bn w t P R g1 g2 W) (hp : w.heap.size ≤ g) (h1 : w.heap.size ≠ g) (h2 : w.heap.size + 1 ≠ g) (h3 : g1 ≠ g) (h4 : g2 ≠ g) (cs : Array Value) : Bn w t P R g1 g2 (W.setRow g cs) :=
  ⟨⟨rowB h.base.below hp cs, h.base.tab.setRow_far h1 cs, h.base.man.setRow_far h2 cs⟩, h.lo, h.tab.setRow_far h3 cs, h.man.setRow_far h4 cs⟩
/-- What append to nil leaves of pairs: a row of its own. -/
def CopyR (w0 : World) (E : TypeId) (n : Nat) (xs : List Pr) (v : Value) (w' : World) : Prop := ∃ g cap, v = .slice (some ⟨g, 0, none⟩) n cap ∧ w0.heap.size ≤ g ∧ n ≤ cap ∧ RowOf prC 2 w' g E n xs
theorem CopyR.stable {w0 : World} {E : TypeId} {n : Nat} {xs : List Pr} : ∀ v w w', CopyR w0 E n xs v w → Below w.heap.size w w' → CopyR w0 E n xs v w' := fun _ _ _ ⟨g, cap, h1, h2, h3, h4⟩ hb => ⟨g, cap, h1, h2, h3, h4.keep hb⟩
end Go.Proofs
namespace Go.Proofs
open Go.RowKit Go.Shelf Gas
attribute [local go_sem ↓] Go.wp_at_zero Go.wp_at_succ
theorem owns_form {w : World} {b n : Nat} {v : Value} {xs : List St} (h : w.ownsRow b 80 4 v n (flat St.cs xs)) (hn : xs.length = n) : ∃ A c, v = .slice A n c ∧ SlOf St.cs 4 w A n xs ∧ (A = none → c = 0) := by
  rcases h.2 with ⟨rfl, h0⟩ | ⟨g, cap, cur, rfl, h2, h3, h4, h5, h6, h7⟩
  · have hx : xs = [] := List.eq_nil_of_length_eq_zero (by omega)
    subst hx; subst h0
    exact ⟨none, 0, rfl, SlOf.nil _ _ _, fun _ => rfl⟩
  · have hr : RowOf St.cs 4 w g 80 n xs := ⟨cur, h3, hn, fun j u hu => by
      rw [← h7, List.getElem?_take] at hu
      split at hu
      · rw [← Array.getElem?_toList]; exact hu
      · cases hu⟩
    exact ⟨_, cap, rfl, hr.sl St.cs_len, fun h => by cases h⟩
end Go.Proofs
namespace Go.Proofs
open Go.RowKit Go.Shelf Gas
theorem stop_err {t : Tm} {dive : List St} (hdb : definedB t.ps t.ss t.rs dive 0 = true) (hl : dive.length < 4) : (∃ d m, stopF t dive = ((d, m), 0)) ∨ stopF t dive = ((0, 0), 5) := by
  rcases stop_sem hdb hl with ⟨_, h⟩ | ⟨_, h, _⟩ | ⟨_, d, n, h, _⟩
  · exact .inl ⟨0, 0, h⟩
  · exact .inr h
  · exact .inl ⟨d, n, h⟩
/-- What both stops are, where one is of numbers that are known better. -/
theorem stops_two {t t' : Tm} {dive dive' : List St} (hdb : definedB t.ps t.ss t.rs dive 0 = true) (hdb' : definedB t'.ps t'.ss t'.rs dive' 0 = true) (hl : dive'.length = dive.length) (hM : MoreSem t t' dive dive') (h4 : dive.length < 4) :
    (∃ d' m' e', stopF t dive = ((0, 0), 5) ∧ stopF t' dive' = ((d', m'), e') ∧ (e' = 0 ∨ e' = 5)) ∨ (∃ d m d' m', stopF t dive = ((d, m), 0) ∧ stopF t' dive' = ((d', m'), 0) ∧ m' ≤ m) := by
  rcases stop_err hdb h4 with ⟨d, m, h⟩ | h
  · obtain ⟨d', m', h1, h2⟩ := hM.stop h4 d m h
    exact .inr ⟨d, m, d', m', h, h1, h2⟩
  · rcases stop_err hdb' (by omega) with ⟨d', m', h'⟩ | h'
    · exact .inl ⟨d', m', 0, h, h', .inl rfl⟩
    · exact .inl ⟨0, 0, 5, h, h', .inr rfl⟩
theorem known_lists {t : Tm} (ht : t.Small) (A : Option Addr) (n c : Nat) (dive : List St) (hA : A = none → c = 0) (hn : n ≤ 100000) (w : World) (hi : t.In w) (hd : SlOf St.cs 4 w A n dive) (hdb : definedB t.ps t.ss t.rs dive 0 = true) :
    Calls Tryz.prog 32 #[t.tab, t.man, .slice A n c] w fun e w' => ∃ A' c', e = .returned (.tuple #[.slice A' (n + 1) c', .int .i64 0]) ∧ Lists w' w.heap.size (.slice A' (n + 1) c') t.pn (knownL t.ps t.rs t.pn (h0, true) (dive ++ [st0])) ∧ Below w.heap.size w w' := by
  have := Known_c t ht A n c dive hA hn w hi hd
  rw [hdb, show knownF t dive = knownL t.ps t.rs t.pn (h0, true) (dive ++ [st0]) by simp [knownF, hdb]] at this
  refine this.mono fun e w' (⟨v, h1, h2, h3⟩ : IsKnown w t.pn (knownL t.ps t.rs t.pn (h0, true) (dive ++ [st0])) (errI true) e w') => ?_
  obtain ⟨A', c', rfl⟩ := h2.form2
  rw [show (knownL t.ps t.rs t.pn (h0, true) (dive ++ [st0])).length = n + 1 by rw [knownL_len]; simp [hd.1]] at h1 h2
  exact ⟨A', c', h1, h2, h3⟩
end Go.Proofs
