/-
  Contracts of the specification's Person, Part, May, With and Owed hold at every season of moderate size.
-/
import Derived.Test.YtplhaohcmhepbaaGreatDoorP14
import Derived.Test.YtplhaohcmhepbaaGreatDoorP1
import Derived.Test.YtplhaohcmhepbaaGreatDoorP6
import Derived.Test.YtplhaohcmhepbaaGreatDoorP12
namespace Go.Proofs

theorem share_like {ps : List Pe} {ls ms : List La} (h : Seas ps ls) (g : Seas ps ms) (k : Nat) (hs : ∀ D, fsum D (ls.map (wp ps k)) = fsum D (ms.map (wp ps k))) (hm : ∀ y ∈ ms, ∃ x ∈ ls, x.w = y.w) : shareF ps ls k = shareF ps ms k := by
  rw [share_eq, share_eq, hs]
  refine fsum_floor ⟨h.den.1, fun x hx => ?_⟩ (g.dv k)
  obtain ⟨y, hy, rfl⟩ := List.mem_map.1 hx
  obtain ⟨z, hz, e⟩ := hm y hy
  have := (h.dv k).dv (wp ps k z) (List.mem_map.2 ⟨z, hz, rfl⟩)
  simpa [wp, e] using this
theorem fsum_map (D : Int) (ps : List Pe) (k : Nat) (ls : List La) : fsum D (ls.map (wp ps k)) = sumI (ls.map fun l => wtF ps k l * (D / partsL ps l.w)) := by
  unfold fsum; rw [List.map_map]; rfl
theorem sum_set {α : Type} (f : α → Int) : ∀ (l : List α) (i : Nat) (x a : α), l[i]? = some x → sumI ((l.set i a).map f) = sumI (l.map f) - f x + f a
  | [], _, _, _, h => by simp at h
  | y :: r, 0, x, a, h => by simp at h; subst h; simp only [List.set_cons_zero, List.map_cons, sumI]; omega
  | y :: r, i + 1, x, a, h => by
    have := sum_set f r i x a (by simpa using h)
    simp only [List.set_cons_succ, List.map_cons, sumI]; omega
theorem sum_snoc {α : Type} (f : α → Int) (l : List α) (a : α) : sumI ((l ++ [a]).map f) = sumI (l.map f) + f a := by
  rw [List.map_append, sumI_append]; simp [sumI]
theorem mem_set' {α : Type} {l : List α} {i : Nat} {a y : α} (h : y ∈ l.set i a) : y = a ∨ y ∈ l := by
  rcases List.mem_or_eq_of_mem_set h with h | h
  · exact .inr h
  · exact .inl h
/-- Two exchanged. -/
def swapL {α : Type} (l : List α) (i j : Nat) (x y : α) : List α := (l.set i y).set j x
theorem swap_sum {α : Type} (f : α → Int) {l : List α} {i j : Nat} {x y : α} (hx : l[i]? = some x) (hy : l[j]? = some y) : sumI ((swapL l i j x y).map f) = sumI (l.map f) := by
  unfold swapL
  have hi := (List.getElem?_eq_some_iff.1 hx).1
  by_cases hij : i = j
  · subst hij
    rw [hx] at hy; cases hy
    rw [sum_set f _ i x x (by simp [hi]), sum_set f _ i x x hx]; omega
  · rw [sum_set f _ j y x (by rw [List.getElem?_set_ne hij]; exact hy), sum_set f _ i x y hx]; omega
theorem swap_mem {α : Type} {l : List α} {i j : Nat} {x y z : α} (hx : l[i]? = some x) (hy : l[j]? = some y) (h : z ∈ swapL l i j x y) : z ∈ l := by
  rcases mem_set' h with rfl | h
  · exact List.mem_of_getElem? hx
  · rcases mem_set' h with rfl | h
    · exact List.mem_of_getElem? hy
    · exact h
/-- Turned about. -/
def turnL {α : Type} (l : List α) (b : Nat) : List α := l.drop b ++ l.take b
theorem turn_sum {α : Type} (f : α → Int) (l : List α) (b : Nat) : sumI ((turnL l b).map f) = sumI (l.map f) := by
  have e : sumI (l.map f) = sumI ((l.take b ++ l.drop b).map f) := by rw [List.take_append_drop]
  unfold turnL
  rw [e, List.map_append, List.map_append, sumI_append, sumI_append]; omega
theorem turn_mem {α : Type} {l : List α} {b : Nat} {z : α} (h : z ∈ turnL l b) : z ∈ l := by
  unfold turnL at h
  rcases List.mem_append.1 h with h | h
  · exact List.mem_of_mem_drop h
  · exact List.mem_of_mem_take h
theorem turn_get {α : Type} {l : List α} {b : Nat} (hb : b < l.length) {i : Nat} (hi : i < l.length) : (turnL l b)[i]? = l[(i + b) % l.length]? := by
  unfold turnL
  by_cases h : i < l.length - b
  · rw [List.getElem?_append_left (by simp; omega), List.getElem?_drop, Nat.mod_eq_of_lt (by omega)]
    congr 1; omega
  · rw [List.getElem?_append_right (by simp; omega), List.getElem?_take]
    have e : (i + b) % l.length = i + b - l.length := by
      rw [Nat.mod_eq_sub_mod (by omega), Nat.mod_eq_of_lt (by omega)]
    rw [e, List.length_drop, if_pos (by omega)]
    congr 1; omega
theorem turn_len {α : Type} (l : List α) (b : Nat) (hb : b ≤ l.length) : (turnL l b).length = l.length := by unfold turnL; simp; omega
theorem Seas.of_mem {ps : List Pe} {ls ms : List La} (h : Seas ps ls) (hl : ms.length ≤ 6) (hm : ∀ y ∈ ms, y ∈ ls) : Seas ps ms := ⟨h.two, h.six, h.pe, h.sum, h.house, hl, fun y hy => h.la y (hm y hy)⟩
/-- A settlement of landings that are the same in another order. -/
theorem settle_like {ps : List Pe} {ls ms : List La} (h : Seas ps ls) (g : Seas ps ms) (hs : ∀ f : La → Int, sumI (ls.map f) = sumI (ms.map f)) (hm : ∀ y ∈ ms, y ∈ ls) : endsF ps ls = endsF ps ms ∧ boxF ps ls = boxF ps ms := by
  have key : ∀ k, shareF ps ls k = shareF ps ms k := fun k => share_like h g k (fun D => by rw [fsum_map, fsum_map, hs]) (fun y hy => ⟨y, hm y hy, rfl⟩)
  exact ⟨ends_congr (fun k _ => key k) (hs _), box_congr (fun k _ => key k) (hs _)⟩
/-- The order of landings does not matter. -/
theorem order_settle {ps : List Pe} {ls : List La} (h : Seas ps ls) {b i j : Nat} (hb : b < ls.length) {x y : La} (hx : (turnL ls b)[i]? = some x) (hy : (turnL ls b)[j]? = some y) :
    Seas ps (swapL (turnL ls b) i j x y) ∧ endsF ps ls = endsF ps (swapL (turnL ls b) i j x y) ∧ boxF ps ls = boxF ps (swapL (turnL ls b) i j x y) := by
  have hm : ∀ z ∈ swapL (turnL ls b) i j x y, z ∈ ls := fun z hz => turn_mem (swap_mem hx hy hz)
  have hl : (swapL (turnL ls b) i j x y).length = ls.length := by
    unfold swapL; rw [List.length_set, List.length_set]; exact turn_len ls b (by omega)
  have g := h.of_mem (ms := swapL (turnL ls b) i j x y) (by rw [hl]; exact h.few) hm
  exact ⟨g, settle_like h g (fun f => by rw [swap_sum f hx hy, turn_sum]) hm⟩
/-- Nor does it whether a landing without a deficit is divided into two. -/
theorem split_settle {ps : List Pe} {ls : List La} (h : Seas ps ls) {i : Nat} {z a b : La} (hz : ls[i]? = some z) (h6 : ls.length < 6) (hn : z.c ≤ z.g) (ha : 0 ≤ a.c ∧ a.c ≤ a.g ∧ a.g ≤ 100000 ∧ a.w = z.w) (hb : 0 ≤ b.c ∧ b.c ≤ b.g ∧ b.g ≤ 100000 ∧ b.w = z.w) (hg : a.g + b.g = z.g) (hc : a.c + b.c = z.c) :
    Seas ps (ls.set i a ++ [b]) ∧ endsF ps ls = endsF ps (ls.set i a ++ [b]) ∧ boxF ps ls = boxF ps (ls.set i a ++ [b]) := by
  have hzl := h.la z (List.mem_of_getElem? hz)
  have hm : ∀ y ∈ ls.set i a ++ [b], y = a ∨ y = b ∨ y ∈ ls := fun y hy => by
    rcases List.mem_append.1 hy with hy | hy
    · rcases mem_set' hy with e | e
      · exact .inl e
      · exact .inr (.inr e)
    · exact .inr (.inl (by simpa using hy))
  have g : Seas ps (ls.set i a ++ [b]) := by
    refine ⟨h.two, h.six, h.pe, h.sum, h.house, by simp; omega, fun y hy => ?_⟩
    rcases hm y hy with rfl | rfl | hy
    · rw [ha.2.2.2]; exact ⟨by omega, by omega, by omega, by omega, hzl.2.2.2.2.1, hzl.2.2.2.2.2.1, hzl.2.2.2.2.2.2⟩
    · rw [hb.2.2.2]; exact ⟨by omega, by omega, by omega, by omega, hzl.2.2.2.2.1, hzl.2.2.2.2.2.1, hzl.2.2.2.2.2.2⟩
    · exact h.la y hy
  have hs : ∀ f : La → Int, f a + f b = f z → sumI (ls.map f) = sumI ((ls.set i a ++ [b]).map f) := fun f e => by
    rw [sum_snoc, sum_set f ls i z a hz]; omega
  have hnet : netI a + netI b = netI z := by unfold netI; omega
  have hdef : defI a + defI b = defI z := by unfold defI; omega
  have key : ∀ k, shareF ps ls k = shareF ps (ls.set i a ++ [b]) k := fun k => share_like h g k (fun D => by
      rw [fsum_map, fsum_map]
      refine hs _ ?_
      rw [wt_pt, wt_pt, wt_pt, ha.2.2.2, hb.2.2.2, ← Int.add_mul, ← Int.add_mul, hnet]) (fun y hy => by
      rcases hm y hy with rfl | rfl | hy
      · exact ⟨z, List.mem_of_getElem? hz, ha.2.2.2.symm⟩
      · exact ⟨z, List.mem_of_getElem? hz, hb.2.2.2.symm⟩
      · exact ⟨y, hy, rfl⟩)
  exact ⟨g, ends_congr (fun k _ => key k) (hs _ hdef), box_congr (fun k _ => key k) (hs _ hnet)⟩

/-- Sums of fractions of two lists of persons, landing by landing. -/
theorem share_pt_le {ps qs : List Pe} {ls : List La} (h : Seas ps ls) (g : Seas qs ls) (k : Nat) (hle : ∀ l ∈ ls, ptF ps l.w k * partsL qs l.w ≤ ptF qs l.w k * partsL ps l.w) : shareF ps ls k ≤ shareF qs ls k := by
  refine share_le h g k rfl (fun i x y hx hy => ?_)
  rw [hx] at hy; cases hy
  have hm := List.mem_of_getElem? hx
  have hla := h.la x hm
  have hn := netI_bd ⟨hla.1, hla.2.1, hla.2.2.1, hla.2.2.2.1⟩
  unfold FLe wp
  simp only [wt_pt]
  rw [Int.mul_assoc, Int.mul_assoc]
  exact Int.mul_le_mul_of_nonneg_left (hle x hm) hn.1
end Go.Proofs
namespace Go.Proofs

theorem range_one (f g : Nat → Int) : ∀ (n p : Nat), p < n → (∀ k, k < n → k ≠ p → g k = f k) → sumI ((List.range n).map g) = sumI ((List.range n).map f) - f p + g p
  | 0, _, hp, _ => by omega
  | n + 1, p, hp, h => by
    rw [List.range_succ, List.map_append, List.map_append, sumI_append, sumI_append]
    simp only [List.map_cons, List.map_nil, sumI]
    by_cases e : p = n
    · subst e
      have : (List.range p).map g = (List.range p).map f := List.map_congr_left (fun k hk => h k (by have := List.mem_range.1 hk; omega) (by have := List.mem_range.1 hk; omega))
      rw [this]; omega
    · have := range_one f g n p (by omega) (fun k hk hne => h k (by omega) hne)
      rw [this, h n (by omega) (fun e' => e e'.symm)]; omega
theorem range_same {f g : Nat → Int} {n : Nat} (h : ∀ k, k < n → g k = f k) : sumI ((List.range n).map g) = sumI ((List.range n).map f) := by
  congr 1
  exact List.map_congr_left (fun k hk => h k (List.mem_range.1 hk))
theorem pt_ne {ps : List Pe} {p : Nat} {y : Pe} {w : Int} {k : Nat} (h : k ≠ p) : ptF (ps.set p y) w k = ptF ps w k := by
  unfold ptF; rw [List.getElem?_set_ne (Ne.symm h)]
theorem pt_at {ps : List Pe} {p : Nat} {y : Pe} (w : Int) (hp : p < ps.length) : ptF (ps.set p y) w p = if hasB w p && shB y.f then y.p else 0 := by
  unfold ptF; simp [hp]
theorem pt_of {ps : List Pe} {p : Nat} {x : Pe} (w : Int) (hx : ps[p]? = some x) : ptF ps w p = if hasB w p && shB x.f then x.p else 0 := by
  unfold ptF; rw [hx]
theorem Seas.ptB {ps : List Pe} {ls : List La} (h : Seas ps ls) (w : Int) (k : Nat) : 0 ≤ ptF ps w k ∧ ptF ps w k ≤ partsL ps w := by
  have h0 : ∀ j, 0 ≤ ptF ps w j := fun j => by
    unfold ptF
    cases hx : ps[j]? with
    | none => simp
    | some x =>
      have := h.pe x (List.mem_of_getElem? hx)
      simp only; split <;> omega
  refine ⟨h0 k, ?_⟩
  rw [parts_pt]
  by_cases hk : k < ps.length
  · exact sumI_mem_le _ (fun y hy => by obtain ⟨z, _, rfl⟩ := List.mem_map.1 hy; exact h0 z) _ (List.mem_map.2 ⟨k, List.mem_range.2 hk, rfl⟩)
  · have : ptF ps w k = 0 := by unfold ptF; rw [List.getElem?_eq_none (by omega)]
    rw [this]
    exact sumI_nonneg _ (fun y hy => by obtain ⟨z, _, rfl⟩ := List.mem_map.1 hy; exact h0 z)
theorem parts_set {ps : List Pe} {p : Nat} (y : Pe) (w : Int) (hp : p < ps.length) : partsL (ps.set p y) w = partsL ps w - ptF ps w p + ptF (ps.set p y) w p := by
  rw [parts_pt, parts_pt, List.length_set]
  exact range_one (ptF ps w) (ptF (ps.set p y) w) ps.length p hp (fun k _ hne => pt_ne hne)
/-- Who has more parts has no lesser share, and nobody else a greater one. -/
theorem more_share {ps : List Pe} {ls : List La} (h : Seas ps ls) {p : Nat} {x : Pe} {m : Int} (hx : ps[p]? = some x) (hm : 0 ≤ m) (g : Seas (ps.set p { x with p := x.p + m }) ls) (k : Nat) :
    (k = p → shareF ps ls k ≤ shareF (ps.set p { x with p := x.p + m }) ls k) ∧ (k ≠ p → shareF (ps.set p { x with p := x.p + m }) ls k ≤ shareF ps ls k) := by
  have hp := (List.getElem?_eq_some_iff.1 hx).1
  constructor
  · rintro rfl
    refine share_pt_le h g k (fun l _ => ?_)
    have hb := h.ptB l.w k
    rw [parts_set _ _ hp, pt_at _ hp]
    have e := pt_of l.w hx
    simp only
    split at e
    · rename_i hc
      rw [if_pos hc, e]
      generalize partsL ps l.w = P at *
      rw [e] at hb
      have : x.p * m ≤ m * P := by rw [Int.mul_comm]; exact Int.mul_le_mul_of_nonneg_left hb.2 hm
      have e1 : x.p * (P - x.p + (x.p + m)) = x.p * P + x.p * m := by rw [show P - x.p + (x.p + m) = P + m by omega, Int.mul_add]
      rw [e1, Int.add_mul]; omega
    · rename_i hc
      rw [if_neg hc, e]; simp
  · intro hk
    refine share_pt_le g h k (fun l _ => ?_)
    have hb := h.ptB l.w k
    have hb2 := h.ptB l.w p
    rw [parts_set _ _ hp, pt_at _ hp, pt_ne hk]
    have e := pt_of l.w hx
    refine Int.mul_le_mul_of_nonneg_left ?_ hb.1
    simp only
    split <;> rename_i hc
    · rw [if_pos hc] at e; omega
    · rw [if_neg hc] at e; omega

theorem clr_has : ∀ n : Fin 64, ∀ k j : Fin 6, hasB (clrN ((n : Nat) : Int) k) j = (if (j : Nat) = k then false else hasB ((n : Nat) : Int) j) := by decide +kernel
theorem has_clr {w : Int} {k j : Nat} (h0 : 0 ≤ w) (h1 : w < 64) (hk : k < 6) (hj : j < 6) : hasB (clrN w k) j = (if j = k then false else hasB w j) := by
  obtain ⟨n, rfl⟩ : ∃ n : Nat, w = n := ⟨w.toNat, by omega⟩
  exact clr_has ⟨n, by omega⟩ ⟨k, hk⟩ ⟨j, hj⟩
theorem floor_add {A B D : Int} (hD : 1 ≤ D) : (A + B) / D - A / D - B / D = 0 ∨ (A + B) / D - A / D - B / D = 1 := by
  have e1 := Int.emod_add_mul_ediv A D
  have e2 := Int.emod_add_mul_ediv B D
  have r1 := Int.emod_nonneg A (show D ≠ 0 by omega)
  have r2 := Int.emod_nonneg B (show D ≠ 0 by omega)
  have s1 := Int.emod_lt_of_pos A (show 0 < D by omega)
  have s2 := Int.emod_lt_of_pos B (show 0 < D by omega)
  have e3 : A + B = (A % D + B % D) + D * (A / D + B / D) := by rw [Int.mul_add]; omega
  have e4 : (A + B) / D = (A % D + B % D) / D + (A / D + B / D) := by
    conv => lhs; rw [e3]
    exact Int.add_mul_ediv_left _ _ (by omega)
  rw [e4]
  generalize A % D = r at *
  generalize B % D = s at *
  by_cases h : r + s < D
  · left; rw [Int.ediv_eq_zero_of_lt (by omega) h]; omega
  · right
    have : (r + s) / D = 1 := by
      have e5 : r + s = (r + s - D) + D * 1 := by omega
      rw [e5, Int.add_mul_ediv_left _ _ (by omega), Int.ediv_eq_zero_of_lt (by omega) (by omega)]; omega
    rw [this]; omega
theorem Seas.w64 {ps : List Pe} {ls : List La} (h : Seas ps ls) {l : La} (hl : l ∈ ls) : 0 ≤ l.w ∧ l.w < 64 := by
  have h1 := h.la l hl
  have h2 := h.six
  have h3 : (2 : Nat) ^ ps.length ≤ 2 ^ 6 := Nat.pow_le_pow_right (by omega) h2
  have e : ((2 ^ ps.length : Nat) : Int) = (2 : Int) ^ ps.length := by push_cast; rfl
  omega
/-- Two persons who take part together. -/
def mergeL (ps : List Pe) (a b : Nat) (x y : Pe) : List Pe := (ps.set a { x with p := x.p + y.p }).set b { y with p := 1 }
theorem one_share {ps : List Pe} {ls : List La} (h : Seas ps ls) {a b : Nat} {x y : Pe} (hx : ps[a]? = some x) (hy : ps[b]? = some y) (hab : a ≠ b) (hfx : x.f = 1) (hfy : y.f = 1) (hw : ∀ l ∈ ls, hasB l.w a = hasB l.w b)
    (g : Seas (mergeL ps a b x y) (ls.map (tookC b))) :
    (∀ k, k < ps.length → k ≠ a → k ≠ b → shareF (mergeL ps a b x y) (ls.map (tookC b)) k = shareF ps ls k) ∧ shareF (mergeL ps a b x y) (ls.map (tookC b)) b = 0 ∧
    (shareF (mergeL ps a b x y) (ls.map (tookC b)) a - shareF ps ls a - shareF ps ls b = 0 ∨ shareF (mergeL ps a b x y) (ls.map (tookC b)) a - shareF ps ls a - shareF ps ls b = 1) := by
  have ha := (List.getElem?_eq_some_iff.1 hx).1
  have hb := (List.getElem?_eq_some_iff.1 hy).1
  have h6 := h.six
  have hsa : shB x.f = true := by rw [hfx]; rfl
  have hsb : shB y.f = true := by rw [hfy]; rfl
  have P1 : ∀ l ∈ ls, ∀ k, k < ps.length → ptF (mergeL ps a b x y) (tookC b l).w k = if k = b then 0 else if k = a then ptF ps l.w a + ptF ps l.w b else ptF ps l.w k := by
    intro l hl k hk
    have hwb := h.w64 hl
    have hc := has_clr (w := l.w) (k := b) (j := k) hwb.1 hwb.2 (by omega) (by omega)
    unfold mergeL
    simp only [tookC]
    by_cases hkb : k = b
    · subst hkb
      rw [pt_at _ (by simpa using hk), hc]; simp
    · rw [pt_ne hkb]
      by_cases hka : k = a
      · subst hka
        rw [pt_at _ hk, hc, pt_of l.w hx, pt_of l.w hy, ← hw l hl]
        simp only [hsa, hsb, Bool.and_true, if_neg hkb, if_true]
        split <;> simp
      · rw [pt_ne hka, if_neg hkb, if_neg hka]
        unfold ptF
        rw [hc, if_neg hkb]
  have P2 : ∀ l ∈ ls, partsL (mergeL ps a b x y) (tookC b l).w = partsL ps l.w := by
    intro l hl
    rw [parts_pt, parts_pt]
    have hlen : (mergeL ps a b x y).length = ps.length := by simp [mergeL]
    rw [hlen, range_same (P1 l hl)]
    have s1 := range_one (fun k => if k = a then ptF ps l.w a + ptF ps l.w b else ptF ps l.w k) (fun k => if k = b then 0 else if k = a then ptF ps l.w a + ptF ps l.w b else ptF ps l.w k) ps.length b hb (fun k _ hne => by simp [hne])
    have s2 := range_one (fun k => ptF ps l.w k) (fun k => if k = a then ptF ps l.w a + ptF ps l.w b else ptF ps l.w k) ps.length a ha (fun k _ hne => by simp [hne])
    simp only [if_true, if_neg (Ne.symm hab)] at s1 s2
    rw [s1, s2]
    have e : (fun k => ptF ps l.w k) = ptF ps l.w := rfl
    rw [e]; omega
  have N : ∀ l, netI (tookC b l) = netI l := fun l => rfl
  have D1 : ∀ k, Dv (denF ps ls) ((ls.map (tookC b)).map (wp (mergeL ps a b x y) k)) := fun k => by
    refine ⟨h.den.1, fun z hz => ?_⟩
    obtain ⟨z1, hz1, rfl⟩ := List.mem_map.1 hz
    obtain ⟨l, hl, rfl⟩ := List.mem_map.1 hz1
    have := (h.dv k).dv (wp ps k l) (List.mem_map.2 ⟨l, hl, rfl⟩)
    simpa [wp, P2 l hl] using this
  have S : ∀ k, shareF (mergeL ps a b x y) (ls.map (tookC b)) k = sumI (ls.map fun l => netI l * ptF (mergeL ps a b x y) (tookC b l).w k * (denF ps ls / partsL ps l.w)) / denF ps ls := fun k => by
    rw [share_eq, fsum_floor (g.dv k) (D1 k), fsum_map, List.map_map]
    congr 2
    apply List.map_congr_left
    intro l hl
    simp only [Function.comp, wt_pt, N, P2 l hl]
  have S0 : ∀ k, shareF ps ls k = sumI (ls.map fun l => netI l * ptF ps l.w k * (denF ps ls / partsL ps l.w)) / denF ps ls := fun k => by
    rw [share_eq, fsum_map]
    congr 2
    apply List.map_congr_left
    intro l _
    rw [wt_pt]
  refine ⟨fun k hk hka hkb => ?_, ?_, ?_⟩
  · rw [S, S0]
    congr 2
    apply List.map_congr_left
    intro l hl
    rw [P1 l hl k hk, if_neg hkb, if_neg hka]
  · rw [S]
    have : ls.map (fun l => netI l * ptF (mergeL ps a b x y) (tookC b l).w b * (denF ps ls / partsL ps l.w)) = ls.map fun _ => (0 : Int) := by
      apply List.map_congr_left
      intro l hl
      rw [P1 l hl b hb, if_pos rfl]; simp
    rw [this, sumI_zero]; simp
  · have : ls.map (fun l => netI l * ptF (mergeL ps a b x y) (tookC b l).w a * (denF ps ls / partsL ps l.w)) = ls.map fun l => netI l * ptF ps l.w a * (denF ps ls / partsL ps l.w) + netI l * ptF ps l.w b * (denF ps ls / partsL ps l.w) := by
      apply List.map_congr_left
      intro l hl
      rw [P1 l hl a ha, if_neg hab, if_pos rfl, Int.mul_add, Int.add_mul]
    rw [S, this, sumI_add, S0, S0]
    exact floor_add h.den.1
end Go.Proofs
namespace Go.Proofs

/-- Persons of whom some desert. -/
structure Des (ps qs : List Pe) (q : Nat → Bool) : Prop where
  len : qs.length = ps.length
  get : ∀ (k : Nat) x, ps[k]? = some x → qs[k]? = some (if q k then desert x else x)
theorem Des.uniq {ps qs rs : List Pe} {q : Nat → Bool} (h : Des ps qs q) (g : Des ps rs q) : qs = rs := by
  apply List.ext_getElem?
  intro k
  cases hx : ps[k]? with
  | none =>
    have hk := List.getElem?_eq_none_iff.1 hx
    rw [List.getElem?_eq_none (by rw [h.len]; exact hk), List.getElem?_eq_none (by rw [g.len]; exact hk)]
  | some x => rw [h.get k x hx, g.get k x hx]
theorem Des.pt {ps qs : List Pe} {q : Nat → Bool} (h : Des ps qs q) (w : Int) (k : Nat) : ptF qs w k = if q k then 0 else ptF ps w k := by
  unfold ptF
  cases hx : ps[k]? with
  | none =>
    have hk := List.getElem?_eq_none_iff.1 hx
    rw [List.getElem?_eq_none (by rw [h.len]; exact hk)]; simp
  | some x =>
    rw [h.get k x hx]
    cases q k
    · simp
    · simp [desert, shB]
theorem Des.seas {ps qs : List Pe} {q : Nat → Bool} {ls : List La} (h : Des ps qs q) (hs : Seas ps ls) (h0 : q 0 = false) : Seas qs ls := by
  have hel : ∀ y ∈ qs, ∃ x ∈ ps, y.p = x.p ∧ y.d = x.d ∧ (y.f = x.f ∨ y.f = 2) := by
    intro y hy
    obtain ⟨k, hk, e⟩ := List.getElem_of_mem hy
    have hk2 : k < ps.length := by rw [← h.len]; exact hk
    have hg := h.get k _ (List.getElem?_eq_getElem hk2)
    rw [List.getElem?_eq_getElem hk, e] at hg
    refine ⟨_, List.getElem_mem hk2, ?_⟩
    cases hg
    split <;> simp [desert]
  refine ⟨by rw [h.len]; exact hs.two, by rw [h.len]; exact hs.six, fun y hy => ?_, ?_, ?_, hs.few, fun l hl => by rw [h.len]; exact hs.la l hl⟩
  · obtain ⟨x, hx, e1, e2, e3⟩ := hel y hy
    have := hs.pe x hx
    omega
  · have e : qs.map Pe.p = ps.map Pe.p := by
      apply List.ext_getElem?
      intro k
      simp only [List.getElem?_map]
      cases hx : ps[k]? with
      | none =>
        have hk := List.getElem?_eq_none_iff.1 hx
        rw [List.getElem?_eq_none (by rw [h.len]; exact hk)]
      | some x => rw [h.get k x hx]; simp only [Option.map_some]; split <;> rfl
    rw [e]; exact hs.sum
  · obtain ⟨x, r, hps, h1, h2⟩ := hs.house
    have hg := h.get 0 x (by rw [hps]; rfl)
    rw [h0] at hg
    cases qs with
    | nil => simp at hg
    | cons y s => simp at hg; subst hg; exact ⟨y, s, rfl, h1, h2⟩
theorem Des.parts_le {ps qs rs : List Pe} {q r : Nat → Bool} {ls : List La} (hs : Seas ps ls) (h : Des ps qs q) (g : Des ps rs r) (hqr : ∀ k, q k = true → r k = true) (w : Int) : partsL rs w ≤ partsL qs w := by
  rw [parts_pt, parts_pt, h.len, g.len]
  refine sumI_mono _ (fun k _ => ?_)
  rw [h.pt, g.pt]
  have := (hs.ptB w k).1
  cases hq : q k
  · cases r k <;> simp <;> omega
  · rw [hqr k hq]; simp
/-- If more desert, nobody else's share is less. -/
theorem des_le {ps qs rs : List Pe} {q r : Nat → Bool} {ls : List La} (hs : Seas ps ls) (h : Des ps qs q) (g : Des ps rs r) (hqr : ∀ k, q k = true → r k = true) (h0 : r 0 = false) {p : Nat} (hp : r p = false) : shareF qs ls p ≤ shareF rs ls p := by
  have hq0 : ∀ k, r k = false → q k = false := fun k hk => by
    cases hq : q k
    · rfl
    · have := hqr k hq; rw [hk] at this; cases this
  refine share_pt_le (h.seas hs (hq0 0 h0)) (g.seas hs h0) p (fun l _ => ?_)
  rw [h.pt, g.pt, hp, hq0 p hp]
  exact Int.mul_le_mul_of_nonneg_left (h.parts_le hs g hqr l.w) (by simpa using (hs.ptB l.w p).1)
theorem des_nil (ps : List Pe) : Des ps ps (fun _ => false) := ⟨rfl, fun k x hx => by simpa using hx⟩
theorem desert_idem (x : Pe) : desert (desert x) = desert x := rfl
theorem desL_des : ∀ (ds : List Nat) (ps : List Pe), Des ps (desL ps ds) (fun k => decide (k ∈ ds))
  | [], ps => ⟨rfl, fun k x hx => by simpa [desL] using hx⟩
  | d :: r, ps => by
    have ih := desL_des r (ps.modify d desert)
    refine ⟨by rw [desL_len], fun k x hx => ?_⟩
    have e : desL ps (d :: r) = desL (ps.modify d desert) r := rfl
    rw [e]
    by_cases hk : d = k
    · subst hk
      rw [ih.get d (desert x) (by rw [List.getElem?_modify, hx]; simp)]
      simp only [List.mem_cons, true_or, decide_true, if_true]
      split <;> simp [desert_idem]
    · rw [ih.get k x (by rw [List.getElem?_modify, hx]; simp [hk])]
      have : decide (k ∈ d :: r) = decide (k ∈ r) := by simp [Ne.symm hk]
      rw [this]

/-- The best of some numbers, by a strict order of numbers. -/
theorem bestL_least (L : List Int) (v : Int) (hv : v ∈ L) (h : ∀ x ∈ L, v ≤ x) : bestL ltI L = some v := by
  have key : ∀ (L : List Int) (o : Option Int), (∀ x ∈ L, v ≤ x) → (∀ b, o = some b → v ≤ b) → (v ∈ L ∨ o = some v) → L.foldl (better1 ltI) o = some v := by
    intro L
    induction L with
    | nil => intro o _ _ h3; rcases h3 with h3 | h3; · simp at h3
             · exact h3
    | cons x r ih =>
      intro o h1 h2 h3
      simp only [List.foldl_cons]
      have hx := h1 x (by simp)
      refine ih _ (fun y hy => h1 y (by simp [hy])) ?_ ?_
      · intro b hb
        cases o with
        | none => simp [better1] at hb; omega
        | some c =>
          have := h2 c rfl
          simp only [better1] at hb
          split at hb <;> cases hb <;> assumption
      · by_cases e : o = some v
        · right
          subst e
          have hf : ltI x v = false := by simp [ltI]; omega
          simp [better1, hf]
        · rcases h3 with h3 | h3
          · rcases List.mem_cons.1 h3 with rfl | h3
            · right
              cases o with
              | none => rfl
              | some c =>
                have := h2 c rfl
                have hne : c ≠ v := fun e' => e (by rw [e'])
                have hf : ltI v c = true := by simp [ltI]; omega
                simp [better1, hf]
            · exact .inl h3
          · exact absurd h3 e
  exact key L none h (by simp) (.inl hv)
theorem bestL_most (L : List Int) (v : Int) (hv : v ∈ L) (h : ∀ x ∈ L, x ≤ v) : bestL gtI L = some v := by
  have key : ∀ (L : List Int) (o : Option Int), (∀ x ∈ L, x ≤ v) → (∀ b, o = some b → b ≤ v) → (v ∈ L ∨ o = some v) → L.foldl (better1 gtI) o = some v := by
    intro L
    induction L with
    | nil => intro o _ _ h3; rcases h3 with h3 | h3; · simp at h3
             · exact h3
    | cons x r ih =>
      intro o h1 h2 h3
      simp only [List.foldl_cons]
      have hx := h1 x (by simp)
      refine ih _ (fun y hy => h1 y (by simp [hy])) ?_ ?_
      · intro b hb
        cases o with
        | none => simp [better1] at hb; omega
        | some c =>
          have := h2 c rfl
          simp only [better1] at hb
          split at hb <;> cases hb <;> assumption
      · by_cases e : o = some v
        · right
          subst e
          have hf : gtI x v = false := by simp [gtI]; omega
          simp [better1, hf]
        · rcases h3 with h3 | h3
          · rcases List.mem_cons.1 h3 with rfl | h3
            · right
              cases o with
              | none => rfl
              | some c =>
                have := h2 c rfl
                have hne : c ≠ v := fun e' => e (by rw [e'])
                have hf : gtI v c = true := by simp [gtI]; omega
                simp [better1, hf]
            · exact .inl h3
          · exact absurd h3 e
  exact key L none h (by simp) (.inl hv)
theorem listsL_full (ns : List Int) : ns ∈ listsL ns := by
  have key : ∀ (r l : List Int), r ≠ [] → l ++ r ∈ moreL l r := by
    intro r
    induction r with
    | nil => intro l h; exact absurd rfl h
    | cons n r ih =>
      intro l _
      simp only [moreL, List.mem_append, List.mem_cons]
      left
      by_cases hr : r = []
      · left; rw [hr]
      · right
        have := ih (l ++ [n]) hr
        rwa [List.append_assoc, List.singleton_append] at this
  unfold listsL
  by_cases h : ns = []
  · simp [h]
  · exact List.mem_cons_of_mem _ (by simpa using key ns [] h)
theorem mem_membersL {s : Int} {k : Nat} : k ∈ membersL s ↔ k < 12 ∧ hasB s k = true := by
  unfold membersL memTo; simp [List.mem_filter]
/-- The bounds of a share are those when nobody, and when all desert. -/
theorem owed_ends {ps : List Pe} {ls : List La} (hs : Seas ps ls) {p : Nat} {may : Int} (h0 : hasB may 0 = false) (hp : hasB may p = false) (qs : List Pe) (hq : Des ps qs (fun k => hasB may k)) (h12 : ∀ k, 12 ≤ k → hasB may k = false) :
    bestL ltI (owedL ps ls p may) = some (shareF ps ls p) ∧ bestL gtI (owedL ps ls p may) = some (shareF qs ls p) := by
  have hm0 : ∀ k, hasB may k = false → k ∉ membersL may := fun k hk hm => by
    have := (mem_membersL.1 hm).2; rw [hk] at this; cases this
  have hfull : desL ps (membersL may) = qs := by
    refine (desL_des (membersL may) ps).uniq ⟨hq.len, fun k x hx => ?_⟩
    rw [hq.get k x hx]
    have : hasB may k = decide (k ∈ membersL may) := by
      cases hh : hasB may k
      · simp [hm0 k hh]
      · have : k < 12 := by
          by_cases h : k < 12
          · exact h
          · have := h12 k (by omega); rw [hh] at this; cases this
        simp [mem_membersL, this, hh]
    rw [this]
  have hsub : ∀ x ∈ listsL (ints (membersL may)), ∀ k, k ∈ nats x → k ∈ membersL may := by
    intro x hx k hk
    have h1 := listsL_mem hx
    have h2 : (nats x).Sublist (membersL may) := by
      have := h1.map Int.toNat
      rwa [show (ints (membersL may)).map Int.toNat = membersL may from nats_ints _] at this
    exact h2.subset hk
  constructor
  · refine bestL_least _ _ ?_ ?_
    · exact List.mem_map.2 ⟨[], by simp [listsL], rfl⟩
    · intro x hx
      obtain ⟨ds, hds, rfl⟩ := List.mem_map.1 hx
      refine des_le hs (des_nil ps) (desL_des (nats ds) ps) (by simp) ?_ ?_
      · exact decide_eq_false (fun h => hm0 0 h0 (hsub ds hds 0 h))
      · exact decide_eq_false (fun h => hm0 p hp (hsub ds hds p h))
  · refine bestL_most _ _ ?_ ?_
    · refine List.mem_map.2 ⟨ints (membersL may), listsL_full _, ?_⟩
      rw [nats_ints, hfull]
    · intro x hx
      obtain ⟨ds, hds, rfl⟩ := List.mem_map.1 hx
      rw [← hfull]
      refine des_le hs (desL_des (nats ds) ps) (desL_des (membersL may) ps) (fun k hk => ?_) ?_ ?_
      · exact decide_eq_true (hsub ds hds k (of_decide_eq_true hk))
      · exact decide_eq_false (hm0 0 h0)
      · exact decide_eq_false (hm0 p hp)
end Go.Proofs
namespace Go.Proofs
open Go.RowKit Go.Shelf
attribute [local go_sem ↓] Go.wp_at_zero Go.wp_at_succ

theorem person_c (s : Sv) (n : Int) (hp : s.pn ≤ 1000000) (w : World) : Calls Tryz.prog 35 #[s.val, .int .i64 n] w fun e w' => e = .returned (.bool (inB n 0 ((s.pn : Int) - 1))) ∧ Below w.heap.size w w' := by
  have HI := Lib.hid fun (W : World) => refIn_c n 0 ((s.pn : Int) - 1) W
  obtain ⟨pA, lA, pn, pc, ln, lc, ps, ls⟩ := s
  simp only [Sv.val] at *
  have e1 : wrap64 ((pn : Int) - 1) = (pn : Int) - 1 := w64 (by omega) (by omega)
  have B1 := Lib.hid (newB (Below.refl w.heap.size w) (.cells #[.slice pA pn pc, .slice lA ln lc] 25))
  go_enter Tryz.func35, Tryz.ntmps35
  go_wp2_with (go_at_call 82; refine (HI.out _).mono ?_; rintro e w1 ⟨rfl, rfl⟩)
  exact bodyPost_ret (results_tmp rfl _ _ _) rfl ⟨rfl, B1.out⟩

/-- Is a set part of another one? -/
def partB (s t : Int) : Bool := (List.range 6).all fun k => !hasB s k || hasB t k
theorem partB_no {s t : Int} {k : Nat} (hk : k < 6) (h1 : hasB s k = true) (h2 : hasB t k = false) : partB s t = false := by
  unfold partB; rw [List.all_eq_false]; exact ⟨k, List.mem_range.2 hk, by simp [h1, h2]⟩
theorem partB_yes {s t : Int} (h : ∀ j, j < 6 → hasB s j = true → hasB t j = true) : partB s t = true := by
  unfold partB
  rw [List.all_eq_true]
  intro j hj
  have := h j (List.mem_range.1 hj)
  cases hs : hasB s j
  · simp
  · simp [this hs]
theorem partB_get {s t : Int} (h : partB s t = true) {j : Nat} (hj : j < 6) (hs : hasB s j = true) : hasB t j = true := by
  unfold partB at h
  rw [List.all_eq_true] at h
  have := h j (List.mem_range.2 hj)
  simpa [hs] using this
theorem part_c (s t : Int) (h0 : 0 ≤ s) (hs : s ≤ 9223372036854775807) (t0 : 0 ≤ t) (ht : t ≤ 9223372036854775807) (w : World) : Calls Tryz.prog 41 #[.int .i64 s, .int .i64 t] w fun e w' => e = .returned (.bool (partB s t)) ∧ w = w' := by
  go_enter Tryz.func41, Tryz.ntmps41
  go_wp2
  go_loop [5] (fun i => ∃ k : Nat, k ≤ 6 ∧ i = .int .i64 k ∧ ∀ j, j < k → hasB s j = true → hasB t j = true) (fun i => 6 - (intOf i).toNat)
  case atStart => exact ⟨0, by omega, rfl, fun j hj => absurd hj (by omega)⟩
  case round =>
    obtain ⟨k, hk, rfl, hA⟩ := hrel
    have HY := Lib.hid hA
    clear hA
    by_cases hkn : k < 6
    · have k6 : (k : Int) < 6 := by omega
      have HA := Lib.hid fun (W : World) => refHas_c s h0 hs k (by omega) W
      have HB := Lib.hid fun (W : World) => refHas_c t t0 ht k (by omega) W
      have HN := Lib.hid (show hasB s k = true → hasB t k = false → partB s t = false from fun a b => partB_no hkn a b)
      cases c1 : hasB s k
      · have HY2 := Lib.hid (show ∀ j, j < k + 1 → hasB s j = true → hasB t j = true from fun j hj hs => by
          rcases Nat.lt_succ_iff_lt_or_eq.1 hj with h | rfl
          · exact HY.out j h hs
          · rw [c1] at hs; cases hs)
        rw [c1] at HA
        clear c1 HN
        go_wp2_with (go_at_call 36; refine (HA.out _).mono ?_; rintro e w1 ⟨rfl, rfl⟩)
        go_round
        case rel => exact ⟨k + 1, by omega, by go_num, HY2.out⟩
        case measure => first | (simp [intOf]; done) | (simp [intOf]; omega)
      · cases c2 : hasB t k
        · have HE := Lib.hid (HN.out c1 c2)
          rw [c1] at HA
          rw [c2] at HB
          clear c1 c2 HN
          go_wp2_with (go_at_call 36; (first | (with_reducible refine (HA.out _).mono ?_) | (with_reducible refine (HB.out _).mono ?_)); rintro e w1 ⟨rfl, rfl⟩)
          exact bodyPost_ret (results_tmp rfl _ _ _) rfl ⟨by rw [HE.out]; rfl, rfl⟩
        · have HY2 := Lib.hid (show ∀ j, j < k + 1 → hasB s j = true → hasB t j = true from fun j hj hs => by
            rcases Nat.lt_succ_iff_lt_or_eq.1 hj with h | rfl
            · exact HY.out j h hs
            · exact c2)
          rw [c1] at HA
          rw [c2] at HB
          clear c1 c2 HN
          go_wp2_with (go_at_call 36; (first | (with_reducible refine (HA.out _).mono ?_) | (with_reducible refine (HB.out _).mono ?_)); rintro e w1 ⟨rfl, rfl⟩)
          go_round
          case rel => exact ⟨k + 1, by omega, by go_num, HY2.out⟩
          case measure => first | (simp [intOf]; done) | (simp [intOf]; omega)
    · have hke : k = 6 := by omega
      subst hke
      have HE := Lib.hid (partB_yes HY.out)
      go_wp2
      exact bodyPost_ret (results_tmp rfl _ _ _) rfl ⟨by rw [HE.out]; rfl, rfl⟩

/-- May these desert, when a person's share is asked? -/
def mayAt (ps : List Pe) (p : Nat) (may : Int) (i : Nat) : Bool := !hasB may i || (i != 0 && i != p && (ps.getD i ⟨0, 0, 0⟩).f == 1)
def mayB (ps : List Pe) (p : Nat) (may : Int) : Bool := inB may 0 (2 ^ ps.length - 1) && (List.range ps.length).all (mayAt ps p may)
theorem mayB_no {ps : List Pe} {p : Nat} {may : Int} {k : Nat} (hk : k < ps.length) (h : mayAt ps p may k = false) : mayB ps p may = false := by
  unfold mayB
  rw [Bool.and_eq_false_iff]
  right
  rw [List.all_eq_false]; exact ⟨k, List.mem_range.2 hk, by simp [h]⟩
theorem mayB_yes {ps : List Pe} {p : Nat} {may : Int} (h0 : inB may 0 (2 ^ ps.length - 1) = true) (h : ∀ j, j < ps.length → mayAt ps p may j = true) : mayB ps p may = true := by
  unfold mayB
  rw [h0, Bool.true_and, List.all_eq_true]
  intro j hj
  exact h j (List.mem_range.1 hj)
set_option maxHeartbeats 2000000 in
theorem may_c (s : Sv) (p : Nat) (may : Int) (hp6 : s.pn ≤ 6) (w : World) (hi : s.In w) : Calls Tryz.prog 39 #[s.val, .int .i64 p, .int .i64 may] w fun e w' => e = .returned (.bool (mayB s.ps p may)) ∧ Below w.heap.size w w' := by
  have hpl : s.ps.length = s.pn := hi.ps.1
  have HSet := Lib.hid fun (W : World) => refSet_c may s.pn (by omega) W
  have hm : mayB s.ps p may = (inB may 0 (2 ^ s.pn - 1) && (List.range s.pn).all (mayAt s.ps p may)) := by unfold mayB; rw [hpl]
  obtain ⟨pA, lA, pn, pc, ln, lc, ps, ls⟩ := s
  obtain ⟨hp, hl⟩ := hi
  simp only [Sv.val] at *
  have B1 := Lib.hid (newB (Below.refl w.heap.size w) (.cells #[.slice pA pn pc, .slice lA ln lc] 25))
  have HP := Lib.hid (hp.keep B1.out)
  have F1 := (Has.new w 25 #[.slice pA pn pc, .slice lA ln lc]).cell
  clear hp hl
  cases c0 : inB may 0 (2 ^ pn - 1)
  · rw [c0] at HSet hm
    have HE := Lib.hid (show mayB ps p may = false by rw [hm]; rfl)
    clear hm c0
    go_enter Tryz.func39, Tryz.ntmps39
    go_wp2_with (go_at_call 84; refine (HSet.out _).mono ?_; rintro e w1 ⟨rfl, rfl⟩)
    exact bodyPost_ret (results_tmp rfl _ _ _) rfl ⟨by rw [HE.out]; rfl, B1.out⟩
  · have hin : 0 ≤ may ∧ may ≤ 2 ^ pn - 1 := by simpa [inB] using c0
    have hpw := pow_bd pn (by omega)
    have HC0 := Lib.hid (show inB may 0 (2 ^ ps.length - 1) = true by rw [hpl]; exact c0)
    rw [c0] at HSet
    clear hm c0
    go_enter Tryz.func39, Tryz.ntmps39
    go_wp2_with (go_at_call 84; refine (HSet.out _).mono ?_; rintro e w1 ⟨rfl, rfl⟩)
    generalize w.alloc (.cells #[.slice pA pn pc, .slice lA ln lc] 25) = w1 at *
    go_loop [7] (fun i => ∃ k : Nat, k ≤ pn ∧ i = .int .i64 k ∧ ∀ j, j < k → mayAt ps p may j = true) (fun i => pn - (intOf i).toNat)
    case atStart => exact ⟨0, by omega, rfl, fun j hj => absurd hj (by omega)⟩
    case round =>
      obtain ⟨k, hk, rfl, hA⟩ := hrel
      have HY := Lib.hid hA
      clear hA
      by_cases hkn : k < pn
      · have hkl : k < ps.length := by rw [hpl]; exact hkn
        have hx := List.getElem?_eq_getElem hkl
        obtain ⟨x, hxx⟩ : ∃ x, x = ps[k] := ⟨_, rfl⟩
        rw [← hxx] at hx
        obtain ⟨b, o, he⟩ := HP.out.addr (by omega)
        subst he
        have q1 : w1.cell? ⟨b, o + k * 3 + 2, none⟩ = some (.int .i64 x.f) := HP.out.range Pe.cs_len hx 2 _ rfl
        have HM := Lib.hid (show mayAt ps p may k = (!hasB may k || (k != 0 && k != p && x.f == 1)) by unfold mayAt; rw [List.getD_eq_getElem?_getD, hx]; rfl)
        have HA := Lib.hid fun (W : World) => refHas_c may hin.1 (by omega) k (by omega) W
        have HN := Lib.hid (show mayAt ps p may k = false → mayB ps p may = false from fun h => mayB_no hkl h)
        have HX := Lib.hid (show mayAt ps p may k = true → ∀ j, j < k + 1 → mayAt ps p may j = true from fun h j hj => by
          rcases Nat.lt_succ_iff_lt_or_eq.1 hj with h' | rfl
          · exact HY.out j h'
          · exact h)
        generalize x.f = xf at *
        clear hx hxx hkl
        cases c1 : hasB may k
        · have HY2 := Lib.hid (HX.out (by rw [HM.out, c1]; rfl))
          rw [c1] at HA
          clear c1 HN HX HM
          go_wp2_with (go_at_call 36; refine (HA.out _).mono ?_; rintro e w2 ⟨rfl, rfl⟩)
          go_round
          case rel => exact ⟨k + 1, by omega, by go_num, HY2.out⟩
          case measure => first | (simp [intOf]; done) | (simp [intOf]; omega)
        · by_cases k0 : k = 0
          · have HE := Lib.hid (HN.out (by rw [HM.out, c1]; simp [k0]))
            have e0 : ((k : Int) == 0) = true := by simp [k0]
            rw [c1] at HA
            clear c1 HN HX HM k0
            go_wp2_with (go_at_call 36; refine (HA.out _).mono ?_; rintro e w2 ⟨rfl, rfl⟩)
            exact bodyPost_ret (results_tmp rfl _ _ _) rfl ⟨by rw [HE.out]; rfl, B1.out⟩
          · have e0 : ((k : Int) == 0) = false := by simp; omega
            by_cases kp : k = p
            · have HE := Lib.hid (HN.out (by rw [HM.out, c1]; simp [kp]))
              have e1 : ((k : Int) == (p : Int)) = true := by simp [kp]
              rw [c1] at HA
              clear c1 HN HX HM kp
              go_wp2_with (go_at_call 36; refine (HA.out _).mono ?_; rintro e w2 ⟨rfl, rfl⟩)
              exact bodyPost_ret (results_tmp rfl _ _ _) rfl ⟨by rw [HE.out]; rfl, B1.out⟩
            · have e1 : ((k : Int) == (p : Int)) = false := by rw [beq_eq_false_iff_ne]; omega
              by_cases kf : xf = 1
              · have HY2 := Lib.hid (HX.out (by rw [HM.out, c1]; simp [k0, kp, kf]))
                have e2 : (xf != 1) = false := by simp [kf]
                rw [c1] at HA
                clear c1 HN HX HM k0 kp kf
                go_wp2_with (go_at_call 36; refine (HA.out _).mono ?_; rintro e w2 ⟨rfl, rfl⟩)
                go_round
                case rel => exact ⟨k + 1, by omega, by go_num, HY2.out⟩
                case measure => first | (simp [intOf]; done) | (simp [intOf]; omega)
              · have HE := Lib.hid (HN.out (by rw [HM.out, c1]; simp [kf]))
                have e2 : (xf != 1) = true := by simp [kf]
                rw [c1] at HA
                clear c1 HN HX HM k0 kp kf
                go_wp2_with (go_at_call 36; refine (HA.out _).mono ?_; rintro e w2 ⟨rfl, rfl⟩)
                exact bodyPost_ret (results_tmp rfl _ _ _) rfl ⟨by rw [HE.out]; rfl, B1.out⟩
      · have hke : k = pn := by omega
        subst hke
        have HE := Lib.hid (mayB_yes HC0.out (by rw [hpl]; exact HY.out))
        go_wp2
        exact bodyPost_ret (results_tmp rfl _ _ _) rfl ⟨by rw [HE.out]; rfl, B1.out⟩

theorem hasB_small {s : Int} {n k : Nat} (h0 : 0 ≤ s) (h1 : s ≤ 2 ^ n - 1) (hk : n ≤ k) : hasB s k = false := by
  have h2 : (2 : Int) ^ n ≤ 2 ^ k := by
    have : (2 : Nat) ^ n ≤ 2 ^ k := Nat.pow_le_pow_right (by omega) hk
    have e1 : ((2 ^ n : Nat) : Int) = (2 : Int) ^ n := by push_cast; rfl
    have e2 : ((2 ^ k : Nat) : Int) = (2 : Int) ^ k := by push_cast; rfl
    omega
  unfold hasB
  rw [Int.ediv_eq_zero_of_lt h0 (by omega)]; rfl
/-- The program's rule, and the specification's. -/
theorem may_open {ps : List Pe} {p : Nat} {may : Int} (h6 : ps.length ≤ 6) (h2 : 0 < ps.length) (hp : p < ps.length) : openB ps p may = mayB ps p may := by
  unfold openB mayB
  cases c0 : inB may 0 (2 ^ ps.length - 1)
  · rfl
  · have hin : 0 ≤ may ∧ may ≤ 2 ^ ps.length - 1 := by simpa [inB] using c0
    simp only [Bool.true_and]
    apply Bool.eq_iff_iff.2
    simp only [Bool.and_eq_true, List.all_eq_true, List.mem_range, Bool.not_eq_true', beq_iff_eq]
    constructor
    · rintro ⟨⟨h0, h1⟩, h3⟩ j hj
      unfold mayAt
      cases hh : hasB may j
      · rfl
      · have hj0 : j ≠ 0 := by rintro rfl; rw [h0] at hh; cases hh
        have hjp : j ≠ p := by rintro rfl; rw [h1] at hh; cases hh
        have hf := h3 j (mem_membersL.2 ⟨by omega, hh⟩)
        rw [hf]
        simp [hj0, hjp]
    · intro h
      refine ⟨⟨?_, ?_⟩, ?_⟩
      · cases hh : hasB may 0
        · rfl
        · have := h 0 h2; unfold mayAt at this; rw [hh] at this; simp at this
      · cases hh : hasB may p
        · rfl
        · have := h p hp; unfold mayAt at this; rw [hh] at this; simp at this
      · intro d hd
        obtain ⟨h12, hh⟩ := mem_membersL.1 hd
        have hdl : d < ps.length := by
          by_cases hc : d < ps.length
          · exact hc
          · rw [hasB_small hin.1 hin.2 (by omega)] at hh; cases hh
        have := h d hdl
        unfold mayAt at this
        rw [hh] at this
        simp only [Bool.not_true, Bool.false_or, Bool.and_eq_true, beq_iff_eq] at this
        exact this.2
theorem mayB_facts {ps : List Pe} {p : Nat} {may : Int} (h : mayB ps p may = true) (h2 : 0 < ps.length) (hp : p < ps.length) : 0 ≤ may ∧ may ≤ 2 ^ ps.length - 1 ∧ hasB may 0 = false ∧ hasB may p = false := by
  unfold mayB at h
  simp only [Bool.and_eq_true, List.all_eq_true, List.mem_range] at h
  have hin : 0 ≤ may ∧ may ≤ 2 ^ ps.length - 1 := by simpa [inB] using h.1
  refine ⟨hin.1, hin.2, ?_, ?_⟩
  · cases hh : hasB may 0
    · rfl
    · have := h.2 0 h2; unfold mayAt at this; rw [hh] at this; simp at this
  · cases hh : hasB may p
    · rfl
    · have := h.2 p hp; unfold mayAt at this; rw [hh] at this; simp at this
end Go.Proofs
namespace Go.Proofs
open Go.RowKit Go.Shelf
attribute [local go_sem ↓] Go.wp_at_zero Go.wp_at_succ

set_option maxHeartbeats 2000000 in
set_option maxRecDepth 20000 in
/-- The specification's season in which some desert. -/
theorem refWith_c (s : Sv) (set : Int) (h0 : 0 ≤ set) (h1 : set ≤ 9223372036854775807) (hp40 : s.pn ≤ 40) (hp1 : 0 < s.pn) (w : World) (hi : s.In w) :
    Calls Tryz.prog 42 #[s.val, .int .i64 set] w fun e w' => ∃ pA' pc' qs, e = .returned (.agg #[.slice pA' s.pn pc', .slice s.lA s.ln s.lc]) ∧ Des s.ps qs (fun k => hasB set k) ∧ SlOf Pe.cs 3 w' pA' s.pn qs ∧ Below w.heap.size w w' := by
  obtain ⟨pA, lA, pn, pc, ln, lc, ps, ls⟩ := s
  obtain ⟨hp, hl⟩ := hi
  simp only [Sv.val] at *
  obtain ⟨pb, po, rfl⟩ := hp.addr hp1
  have HP := Lib.hid hp; have HPL := Lib.hid hp.1
  clear hp hl
  have F2 := Lib.hid ((Has.new w 25 #[.slice (some ⟨pb, po, none⟩) pn pc, .slice lA ln lc]).alloc (.cells #[.slice none 0 0, .slice none 0 0] 25))
  have F4 := Lib.hid (Has.new' (w.alloc (.cells #[.slice (some ⟨pb, po, none⟩) pn pc, .slice lA ln lc] 25)) 25 #[.slice none 0 0, .slice none 0 0] (g := w.heap.size + 1) (by simp))
  have B0 := Lib.hid (newB (newB (Below.refl w.heap.size w) (.cells #[.slice (some ⟨pb, po, none⟩) pn pc, .slice lA ln lc] 25)) (.cells #[.slice none 0 0, .slice none 0 0] 25))
  go_enter Tryz.func42, Tryz.ntmps42
  go_wp2_with (first
    | (refine wpList_load_row rfl 25 _ rfl w.heap.size rfl 25 _ (0, 0) _ (F2.out.alloc _) Tryz.underlying25 rfl (by kernel_rfl) ?_)
    | (refine wpList_load_row rfl 25 _ rfl w.heap.size rfl 25 _ (0, 0) _ F2.out Tryz.underlying25 rfl (by kernel_rfl) ?_)
    | (refine wpList_store_all rfl 25 _ _ rfl (w.heap.size + 1 + 1) rfl _ rfl 25 _ (Has.new' _ _ _ (by simp)) (by kernel_rfl) rfl (by simp [Value.oneCell']) ?_; refine Hold.out ?_))
  refine ⟨?_⟩
  have hz : ((w.alloc (.cells #[.slice (some ⟨pb, po, none⟩) pn pc, .slice lA ln lc] 25)).alloc (.cells #[.slice none 0 0, .slice none 0 0] 25)).heap.size = w.heap.size + 1 + 1 := by simp
  generalize (w.alloc (.cells #[.slice (some ⟨pb, po, none⟩) pn pc, .slice lA ln lc] 25)).alloc (.cells #[.slice none 0 0, .slice none 0 0] 25) = W0 at *
  have F5 := Lib.hid ((Has.new' W0 25 #[.slice none 0 0, .slice none 0 0] hz).setRow #[.slice (some ⟨pb, po, none⟩) pn pc, .slice lA ln lc])
  have B5 := Lib.hid (rowB (newB B0.out (.cells #[.slice none 0 0, .slice none 0 0] 25)) (g := w.heap.size + 1 + 1) (by omega) #[.slice (some ⟨pb, po, none⟩) pn pc, .slice lA ln lc])
  have F25 := Lib.hid ((F2.out.alloc (.cells #[.slice none 0 0, .slice none 0 0] 25)).setRow_far (k := w.heap.size + 1 + 1) (by omega) #[.slice (some ⟨pb, po, none⟩) pn pc, .slice lA ln lc])
  have F45 := Lib.hid ((F4.out.alloc (.cells #[.slice none 0 0, .slice none 0 0] 25)).setRow_far (k := w.heap.size + 1 + 1) (by omega) #[.slice (some ⟨pb, po, none⟩) pn pc, .slice lA ln lc])
  have hz1 : ((W0.alloc (.cells #[.slice none 0 0, .slice none 0 0] 25)).setRow (w.heap.size + 1 + 1) #[.slice (some ⟨pb, po, none⟩) pn pc, .slice lA ln lc]).heap.size = w.heap.size + 3 := by simp [hz]
  generalize (W0.alloc (.cells #[.slice none 0 0, .slice none 0 0] 25)).setRow (w.heap.size + 1 + 1) #[.slice (some ⟨pb, po, none⟩) pn pc, .slice lA ln lc] = W1 at *
  have c1 := F25.out.cell
  clear hz
  go_wp2_with (at_builtin; refine Hold.out ?_)
  refine ⟨?_⟩
  refine El.appMany eP_ok rfl _ _ rfl (w.heap.size + 3) (.slice none 0 0) [] rfl (Own.nil _ _ _) ⟨pb, po, none⟩ pn pc ps rfl (HP.out.keep B5.out) (by simp; omega) (by omega) ?_
  intro v6 w6 ho6 hb6 hs6
  rw [List.nil_append] at ho6
  obtain ⟨A6, c6, rfl, _, _⟩ := ho6.sl
  rw [HPL.out] at ho6 ⊢
  obtain ⟨g6, rfl⟩ := ho6.addr hp1
  have hg6 := (World.ownsRow.lt ho6 g6 rfl)
  have H5 := Lib.hid (show Has w6 (w.heap.size + 1 + 1) 25 #[.slice (some ⟨pb, po, none⟩) pn pc, .slice lA ln lc] from (hb6.block (w.heap.size + 1 + 1) (by omega)).trans F5.out)
  have H4 := Lib.hid (show Has w6 (w.heap.size + 1) 25 #[.slice none 0 0, .slice none 0 0] from (hb6.block (w.heap.size + 1) (by omega)).trans F45.out)
  have HB6 := Lib.hid (B5.out.trans (hb6.mono (by omega)))
  have c5 := H5.out.cell; have f5 := H5.out.frozen; have z5 := H5.out.lt
  have HO6 := Lib.hid (ho6.setFar (i := 0) H5.out (by decide) (.slice (some ⟨g6, 0, none⟩) pn c6))
  have HB7 := Lib.hid (setB HB6.out (p := ⟨w.heap.size + 1 + 1, 0, none⟩) (by simp; omega) (.slice (some ⟨g6, 0, none⟩) pn c6))
  have H57 := Lib.hid (show Has (w6.setCell ⟨w.heap.size + 1 + 1, 0, none⟩ (.slice (some ⟨g6, 0, none⟩) pn c6)) (w.heap.size + 1 + 1) 25 #[.slice (some ⟨g6, 0, none⟩) pn c6, .slice lA ln lc] from H5.out.set 0 _)
  have H47 := Lib.hid (H4.out.far (p := ⟨w.heap.size + 1 + 1, 0, none⟩) (by simp) (.slice (some ⟨g6, 0, none⟩) pn c6))
  clear ho6 hb6 hs6 c1
  go_wp2
  generalize w6.setCell ⟨w.heap.size + 1 + 1, 0, none⟩ (.slice (some ⟨g6, 0, none⟩) pn c6) = W7 at *
  clear c5 f5 z5
  go_loopw [6] (fun v wr => ∃ (k : Nat) (xs : List Pe), k ≤ pn ∧ v = .int .i64 k ∧ Below w.heap.size w wr ∧ Has wr (w.heap.size + 1 + 1) 25 #[.slice (some ⟨g6, 0, none⟩) pn c6, .slice lA ln lc] ∧ Has wr (w.heap.size + 1) 25 #[.slice none 0 0, .slice none 0 0]
    ∧ Own eP (w.heap.size + 3) (.slice (some ⟨g6, 0, none⟩) pn c6) xs wr ∧ Des ps xs (fun j => decide (j < k) && hasB set j)) (fun v _ => pn - (intOf v).toNat)
  case atStart => exact ⟨0, ps, by omega, rfl, HB7.out, H57.out, H47.out, HO6.out, ⟨rfl, fun j x hx => by simpa using hx⟩⟩
  case round =>
    obtain ⟨k, xs, hk, rfl, hB, h5, h4, hO, hD⟩ := hrel
    have HB := Lib.hid hB; have H5r := Lib.hid h5; have H4r := Lib.hid h4; have HO := Lib.hid hO; have HD := Lib.hid hD
    have cr := h5.cell; have zr := h5.lt
    clear hB h5 h4 hO hD
    by_cases hkn : k < pn
    · have HA := Lib.hid fun (W : World) => refHas_c set h0 h1 k (by omega) W
      have hkl : k < ps.length := by rw [HPL.out]; exact hkn
      have hx := List.getElem?_eq_getElem hkl
      obtain ⟨x, hxx⟩ : ∃ x, x = ps[k] := ⟨_, rfl⟩
      rw [← hxx] at hx
      have hxs : xs[k]? = some x := by have := HD.out.get k x hx; simpa using this
      cases c1 : hasB set k
      · have HD2 := Lib.hid (show Des ps xs (fun j => decide (j < k + 1) && hasB set j) from ⟨HD.out.len, fun j y hy => by
          rw [HD.out.get j y hy]
          by_cases hjk : j = k
          · subst hjk; simp [c1]
          · have : decide (j < k + 1) = decide (j < k) := by simp; omega
            rw [this]⟩)
        rw [c1] at HA
        clear c1 hx hxx hxs
        go_wp2_with (go_at_call 36; refine (HA.out _).mono ?_; rintro e w2 ⟨rfl, rfl⟩)
        go_roundw
        case rel => exact ⟨k + 1, xs, by omega, by go_num, HB.out, H5r.out, H4r.out, HO.out, HD2.out⟩
        case measure => first | (simp [intOf]; done) | (simp [intOf]; omega)
      · have hkx : k < xs.length := (List.getElem?_eq_some_iff.1 hxs).1
        have HD2 := Lib.hid (show Des ps (xs.set k (desert x)) (fun j => decide (j < k + 1) && hasB set j) from ⟨by rw [List.length_set]; exact HD.out.len, fun j y hy => by
          by_cases hjk : k = j
          · subst hjk
            rw [List.getElem?_set_self hkx]
            rw [hx] at hy; cases hy
            simp [c1]
          · rw [List.getElem?_set_ne hjk, HD.out.get j y hy]
            have : decide (j < k + 1) = decide (j < k) := by simp; omega
            rw [this]⟩)
        rw [c1] at HA
        have hsl : SlOf Pe.cs 3 wr (some ⟨g6, 0, none⟩) pn xs := by
          obtain ⟨A', c', e1, h1, _⟩ := HO.out.sl
          simp only [Value.slice.injEq] at e1
          obtain ⟨rfl, e2, _⟩ := e1
          rw [e2]; exact h1
        obtain ⟨x0, x1, x2⟩ := x
        have q1 : wr.cell? ⟨g6, k * 3 + 2, none⟩ = some (.int .i64 x2) := by have := hsl.range Pe.cs_len hxs 2 _ rfl; simpa using this
        have q2 := HO.out.frozen (k * 3 + 2)
        have q3 := HO.out.blt
        have HSet := Lib.hid (HO.out.setAt eP_ok (x' := desert ⟨x0, x1, x2⟩) (u := .int .i64 2) (j := 2) hxs (by decide) rfl)
        clear c1 hx hxx hxs hsl
        go_wp2_with (go_at_call 36; refine (HA.out _).mono ?_; rintro e w2 ⟨rfl, rfl⟩)
        go_roundw
        case rel => exact ⟨k + 1, _, by omega, by go_num, setB HB.out (by simp; omega) _, H5r.out.far (by simp; omega) _, H4r.out.far (by simp; omega) _, HSet.out, HD2.out⟩
        case measure => first | (simp [intOf]; done) | (simp [intOf]; omega)
    · have hke : k = pn := by omega
      subst hke
      have HD2 := Lib.hid (show Des ps xs (fun j => hasB set j) from ⟨HD.out.len, fun j y hy => by
        have hj : j < k := by have := (List.getElem?_eq_some_iff.1 hy).1; rw [HPL.out] at this; exact this
        rw [HD.out.get j y hy]; simp [hj]⟩)
      have HSl := Lib.hid (show ∀ cs, SlOf Pe.cs 3 (wr.setRow (w.heap.size + 1) cs) (some ⟨g6, 0, none⟩) k xs from fun cs => by
        obtain ⟨A', c', e1, h1, _⟩ := (HO.out.setRowFar H4r.out (by decide) cs).sl
        simp only [Value.slice.injEq] at e1
        obtain ⟨rfl, e2, _⟩ := e1
        rw [e2]; exact h1)
      go_wp2_with (first
        | (refine wpList_load_row rfl 25 _ rfl (w.heap.size + 1 + 1) rfl 25 _ (0, 0) _ H5r.out Tryz.underlying25 rfl (by kernel_rfl) ?_)
        | (refine wpList_store_all rfl 25 _ _ rfl (w.heap.size + 1) rfl _ rfl 25 _ H4r.out (by kernel_rfl) rfl (by simp [Value.oneCell']) ?_))
      exact bodyPost_ret (results_cell_row rfl _ _ (w.heap.size + 1) 25 _ (0, 0) _ rfl (H4r.out.setRow _) Tryz.underlying25 rfl (by kernel_rfl)) rfl ⟨_, _, xs, rfl, HD2.out, HSl.out _, rowB HB.out (by omega) _⟩
end Go.Proofs
namespace Go.Proofs
open Go.RowKit Go.Shelf
attribute [local go_sem ↓] Go.wp_at_zero Go.wp_at_succ

theorem part_self (s : Int) : partB s s = true := partB_yes fun _ _ h => h
set_option maxHeartbeats 4000000 in
set_option maxRecDepth 20000 in
/-- The specification's bounds of a share, if some may desert. -/
theorem refOwed_c (s : Sv) (hs : Seas s.ps s.ls) (p : Nat) (may : Int) (hp : p < s.pn) (hm : mayB s.ps p may = true) (qs : List Pe) (hq : Des s.ps qs (fun k => hasB may k)) (w : World) (hi : s.In w) :
    Calls Tryz.prog 40 #[s.val, .int .i64 p, .int .i64 may] w fun e w' => e = .returned (.agg #[.int .i64 (shareF s.ps s.ls p), .int .i64 (shareF qs s.ls p)]) ∧ Below w.heap.size w w' := by
  have hpl : s.ps.length = s.pn := hi.ps.1
  have hp6 : s.pn ≤ 6 := by rw [← hpl]; exact hs.six
  have hp2 : 2 ≤ s.pn := by rw [← hpl]; exact hs.two
  obtain ⟨m0, m1, m2, m3⟩ := mayB_facts hm (by omega) (by omega)
  have hpw := pow_bd s.pn (by omega)
  have hm63 : may ≤ 63 := by
    have h3 : (2 : Nat) ^ s.pn ≤ 2 ^ 6 := Nat.pow_le_pow_right (by omega) hp6
    have e : ((2 ^ s.pn : Nat) : Int) = (2 : Int) ^ s.pn := by push_cast; rfl
    rw [hpl] at m1
    omega
  have HSh := Lib.hid fun (W : World) (hb : Below w.heap.size w W) => refShare_c s hs p hp W (hi.keep hb)
  have HWi := Lib.hid fun (k : Nat) (hk : k ≤ 63) (W : World) (hb : Below w.heap.size w W) => refWith_c s (k : Int) (by omega) (by omega) (by omega) (by omega) W (hi.keep hb)
  have HS2 := Lib.hid fun (k : Nat) (hk : partB (k : Int) may = true) (rs : List Pe) (hr : Des s.ps rs (fun j => hasB (k : Int) j)) (pA' : Option Addr) (pc' : Nat) (W : World) (hb : Below w.heap.size w W) (hsl : SlOf Pe.cs 3 W pA' s.pn rs) =>
    (show Calls Tryz.prog 90 #[.agg #[.slice pA' s.pn pc', .slice s.lA s.ln s.lc], .int .i64 p] W fun e w' => e = .returned (.int .i64 (shareF rs s.ls p)) ∧ Below W.heap.size W w' from by
      have h0 : hasB (k : Int) 0 = false := by
        cases hh : hasB (k : Int) 0
        · rfl
        · rw [partB_get hk (by omega) hh] at m2; cases m2
      exact refShare_c ⟨pA', s.lA, s.pn, pc', s.ln, s.lc, rs, s.ls⟩ (hr.seas hs h0) p hp W ⟨hsl, (hi.keep hb).ls⟩)
  have HBd := Lib.hid fun (k : Nat) (hk : partB (k : Int) may = true) (hk63 : (k : Int) ≤ 63) (rs : List Pe) (hr : Des s.ps rs (fun j => hasB (k : Int) j)) => (show shareF s.ps s.ls p ≤ shareF rs s.ls p ∧ shareF rs s.ls p ≤ shareF qs s.ls p from by
    have hsub : ∀ j, hasB (k : Int) j = true → hasB may j = true := fun j hj => by
      by_cases hj6 : j < 6
      · exact partB_get hk hj6 hj
      · rw [hasB_small (n := 6) (by omega) (by simpa using hk63) (by omega)] at hj; cases hj
    have hp0 : hasB (k : Int) p = false := by
      cases hh : hasB (k : Int) p
      · rfl
      · rw [hsub p hh] at m3; cases m3
    have h0 : hasB (k : Int) 0 = false := by
      cases hh : hasB (k : Int) 0
      · rfl
      · rw [hsub 0 hh] at m2; cases m2
    exact ⟨des_le hs (des_nil s.ps) hr (by simp) h0 hp0, des_le hs hr hq hsub m2 m3⟩)
  have HEq := Lib.hid fun (rs : List Pe) (hr : Des s.ps rs (fun j => hasB may j)) => (show shareF rs s.ls p = shareF qs s.ls p from by rw [hr.uniq hq])
  have HTop := Lib.hid (show shareF s.ps s.ls p ≤ shareF qs s.ls p from des_le hs (des_nil s.ps) hq (by simp) m2 m3)
  have hsb := hs.share p
  have hsb2 := (hq.seas hs m2).share p
  obtain ⟨pA, lA, pn, pc, ln, lc, ps, ls⟩ := s
  simp only [Sv.val] at *
  clear hi hpl hs hq hm m1 m2 m3
  obtain ⟨M, rfl⟩ : ∃ M : Nat, may = M := ⟨may.toNat, by omega⟩
  have HPt := Lib.hid fun (k : Nat) (hk : k ≤ 63) (W : World) => part_c (k : Int) (M : Int) (by omega) (by omega) (by omega) (by omega) W
  generalize shareF ps ls p = n0 at *
  generalize shareF qs ls p = n1 at *
  have F0 := Lib.hid ((Has.new w 25 #[.slice pA pn pc, .slice lA ln lc]).alloc (.cells #[.int .i64 0, .int .i64 0] 56))
  have F6 := Lib.hid (Has.new' (w.alloc (.cells #[.slice pA pn pc, .slice lA ln lc] 25)) 56 #[.int .i64 0, .int .i64 0] (g := w.heap.size + 1) (by simp))
  have B0 := Lib.hid (newB (newB (Below.refl w.heap.size w) (.cells #[.slice pA pn pc, .slice lA ln lc] 25)) (.cells #[.int .i64 0, .int .i64 0] 56))
  go_enter Tryz.func40, Tryz.ntmps40
  go_wp2_with (first
    | (refine wpList_load_row rfl 25 _ rfl w.heap.size rfl 25 _ (0, 0) _ F0.out Tryz.underlying25 rfl (by kernel_rfl) ?_)
    | (go_at_call 90; refine (HSh.out _ B0.out).mono ?_; rintro e w2 ⟨rfl, hb⟩; have B2 := Lib.hid (nextB B0.out hb); have F2 := Lib.hid (F0.out.after hb); have F62 := Lib.hid (F6.out.after hb); have hz2 := hb.size; clear hb)
    | (refine wpList_store_all rfl 56 _ _ rfl w2.heap.size rfl _ rfl 56 _ (Has.new w2 56 _) (by kernel_rfl) rfl (by simp [Value.oneCell']) ?_))
  have hlt1 : w.heap.size + 1 < w2.heap.size := by have := F62.out.lt; omega
  have X0 := Lib.hid ((Has.new w2 56 #[.int .i64 0, .int .i64 0]).setRow #[.int .i64 n0, .int .i64 n0])
  have XB := Lib.hid (rowB (newB (Below.refl w2.heap.size w2) (.cells #[.int .i64 0, .int .i64 0] 56)) (Nat.le_refl _) #[.int .i64 n0, .int .i64 n0])
  generalize (w2.alloc (.cells #[.int .i64 0, .int .i64 0] 56)).setRow w2.heap.size #[.int .i64 n0, .int .i64 n0] = w3 at *
  go_loopw [7, 9] (fun v i wr => ∃ (k : Nat) (H : Int), k ≤ M + 1 ∧ i = .int .i64 k ∧ Below w2.heap.size w2 wr ∧ Has wr w2.heap.size 56 #[.int .i64 n0, .int .i64 H] ∧ n0 ≤ H ∧ H ≤ n1 ∧ (M < k → H = n1)) (fun _ i _ => M + 1 - (intOf i).toNat)
  case atStart => exact ⟨0, n0, by omega, rfl, XB.out, X0.out, by omega, HTop.out, fun h => absurd h (by omega)⟩
  case round =>
    obtain ⟨k, H, hk, rfl, hB, hX, hH0, hH1, hH2⟩ := hrel
    have HB := Lib.hid hB; have HX := Lib.hid hX
    have F3 := Lib.hid (F2.out.after hB)
    have hzr := hX.lt
    clear hB hX
    by_cases hkn : k ≤ M
    · have HP2 := Lib.hid (HPt.out k (by omega))
      have hkM : (k : Int) ≤ (M : Int) := by omega
      cases c1 : partB (k : Int) (M : Int)
      · have hne : k ≠ M := by rintro rfl; rw [part_self] at c1; cases c1
        have hH2' : M < k + 1 → H = n1 := fun h => by omega
        rw [c1] at HP2
        clear c1 hH2
        go_wp2_with (go_at_call 41; refine (HP2.out _).mono ?_; rintro e w4 ⟨rfl, rfl⟩)
        go_roundw
        case rel => exact ⟨k + 1, H, by omega, by go_num, HB.out, HX.out, hH0, hH1, hH2'⟩
        case measure => first | (simp [intOf]; done) | (simp [intOf]; omega)
      · have HW2 := Lib.hid (HWi.out k (by omega) wr (nextB B2.out HB.out))
        have HS3 := Lib.hid (HS2.out k c1)
        have HB3 := Lib.hid (HBd.out k c1 (by omega))
        rw [c1] at HP2
        clear c1 hH2
        go_wp2_with (first
          | (go_at_call 41; refine (HP2.out _).mono ?_; rintro e w4 ⟨rfl, rfl⟩)
          | (refine wpList_load_row rfl 25 _ rfl w.heap.size rfl 25 _ (0, 0) _ F3.out Tryz.underlying25 rfl (by kernel_rfl) ?_)
          | (go_at_call 42; refine (HW2.out).mono ?_; rintro e w5 ⟨pA', pc', rs, rfl, hr, hsl, hb⟩; have HR := Lib.hid hr; have SL := Lib.hid hsl; have B5 := Lib.hid (nextB HB.out hb); have X5 := Lib.hid (HX.out.after hb); clear hr hsl hb)
          | (go_at_call 90; refine (HS3.out rs HR.out pA' pc' _ (nextB B2.out B5.out) SL.out).mono ?_; rintro e w6 ⟨rfl, hb⟩; have B6 := Lib.hid (nextB B5.out hb); have X6 := Lib.hid (X5.out.after hb); have cx := X6.out.cell; have hbd := HB3.out rs HR.out; have HZ := Lib.hid hbd; have HKe := Lib.hid (show k = M → shareF rs ls p = n1 from fun e => by subst e; exact HEq.out rs HR.out); clear hb)
          | (refine wpList_store_all rfl 56 _ _ rfl w2.heap.size rfl _ rfl 56 _ X6.out (by kernel_rfl) rfl (by simp [Value.oneCell']) ?_))
        have e1 : min n0 (shareF rs ls p) = n0 := by have := HZ.out; omega
        rw [e1]
        go_roundw
        case rel => exact ⟨k + 1, max H (shareF rs ls p), by omega, by go_num, rowB B6.out (Nat.le_refl _) _, X6.out.setRow _, by omega, by have := HZ.out; omega, fun h => by have := HKe.out (by omega); have := HZ.out; omega⟩
        case measure => first | (simp [intOf]; done) | (simp [intOf]; omega)
    · have hke : k = M + 1 := by omega
      subst hke
      have hH := hH2 (by omega)
      subst hH
      have F63 := Lib.hid (F62.out.after HB.out)
      go_wp2_with (first
        | (refine wpList_load_row rfl 56 _ rfl w2.heap.size rfl 56 _ (0, 0) _ HX.out Tryz.underlying56 rfl (by kernel_rfl) ?_)
        | (refine wpList_store_all rfl 56 _ _ rfl (w.heap.size + 1) rfl _ rfl 56 _ F63.out (by kernel_rfl) rfl (by simp [Value.oneCell']) ?_))
      exact bodyPost_ret (results_cell_row rfl _ _ (w.heap.size + 1) 56 _ (0, 0) _ rfl (F63.out.setRow _) Tryz.underlying56 rfl (by kernel_rfl)) rfl ⟨rfl, rowB (nextB B2.out HB.out) (by omega) _⟩
end Go.Proofs
