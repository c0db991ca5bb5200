/-
  Contracts of the laws' own short and few, and of the specification's Settle, hold at every season of moderate size.
-/
import Derived.Lib.Hide
import Derived.Test.YtplhaohcmhepbaaGreatDoorP1
import Derived.Test.YtplhaohcmhepbaaGreatDoorP11
import Derived.Test.YtplhaohcmhepbaaGreatDoorP12
import Derived.Test.YtplhaohcmhepbaaGreatDoorP10
namespace Go.Proofs
/-- A goal that a walk leaves as it is. -/
structure Hold (p : Prop) : Prop where out : p
end Go.Proofs
namespace Go.Proofs

structure Dv (D : Int) (xs : List (Int × Int)) : Prop where
  pos : 1 ≤ D
  dv : ∀ x ∈ xs, 1 ≤ x.2 ∧ x.2 ∣ D
/-- What a person's parts of a landing's net are. -/
def wtF (ps : List Pe) (k : Nat) (l : La) : Int :=
  match ps[k]? with
  | some x => if hasB l.w k && shB x.f then netI l * x.p else 0
  | none => 0
theorem claim_wt (ps : List Pe) (D : Int) (l : La) (k : Nat) : claimF ps D l k = wtF ps k l * (D / partsL ps l.w) := by
  unfold claimF wtF
  cases ps[k]? with
  | none => simp
  | some x =>
    simp only
    split
    · rw [Int.mul_assoc, Int.mul_assoc, Int.mul_comm (D / partsL ps l.w)]
    · simp
end Go.Proofs
namespace Go.Proofs

theorem sumI_add {α : Type} (f g : α → Int) : ∀ xs : List α, sumI (xs.map fun x => f x + g x) = sumI (xs.map f) + sumI (xs.map g)
  | [] => by simp [sumI]
  | x :: r => by simp only [List.map_cons, sumI, sumI_add f g r]; omega
theorem sumI_zero {α : Type} : ∀ xs : List α, sumI (xs.map fun _ => (0 : Int)) = 0
  | [] => rfl
  | x :: r => by simp only [List.map_cons, sumI, sumI_zero r]; rfl
theorem sumI_swap {α β : Type} (f : α → β → Int) (ys : List β) : ∀ xs : List α, sumI (xs.map fun x => sumI (ys.map (f x))) = sumI (ys.map fun y => sumI (xs.map fun x => f x y))
  | [] => by simp [sumI, sumI_zero]
  | x :: r => by
    simp only [List.map_cons, sumI, sumI_swap f ys r]
    rw [← sumI_add]
theorem sumI_mul {α : Type} (f : α → Int) (c : Int) : ∀ xs : List α, sumI (xs.map fun x => f x * c) = sumI (xs.map f) * c
  | [] => by simp [sumI]
  | x :: r => by simp only [List.map_cons, sumI, sumI_mul f c r, Int.add_mul]
/-- A person's parts of a landing of this crew. -/
def ptF (ps : List Pe) (w : Int) (k : Nat) : Int :=
  match ps[k]? with
  | some x => if hasB w k && shB x.f then x.p else 0
  | none => 0
theorem wt_pt (ps : List Pe) (k : Nat) (l : La) : wtF ps k l = netI l * ptF ps l.w k := by
  unfold wtF ptF
  cases ps[k]? with
  | none => simp
  | some x => simp only; split <;> simp
theorem parts_from (w : Int) : ∀ (ps : List Pe) (j : Nat), sumI ((shFrom w j ps).map Pe.p) = sumI ((List.range ps.length).map fun k => match ps[k]? with | some x => if hasB w (j + k) && shB x.f then x.p else 0 | none => 0)
  | [], j => by simp [shFrom]
  | x :: r, j => by
    have ih := parts_from w r (j + 1)
    simp only [List.length_cons, List.range_succ_eq_map, List.map_cons, List.map_map, sumI]
    have e : (fun k => match (x :: r)[k]? with | some x => if hasB w (j + k) && shB x.f then x.p else 0 | none => 0) ∘ Nat.succ = (fun k => match r[k]? with | some x => if hasB w (j + 1 + k) && shB x.f then x.p else 0 | none => 0) := by
      funext k
      simp only [Function.comp, Nat.succ_eq_add_one, List.getElem?_cons_succ]
      rw [show j + (k + 1) = j + 1 + k by omega]
    rw [e, ← ih]
    simp only [shFrom, List.getElem?_cons_zero, Nat.add_zero]
    split <;> simp [sumI]
theorem parts_pt (ps : List Pe) (w : Int) : partsL ps w = sumI ((List.range ps.length).map (ptF ps w)) := by
  unfold partsL
  rw [parts_from w ps 0]
  congr 1
  apply List.map_congr_left
  intro k _
  simp only [Nat.zero_add]
  rfl
theorem wt_sum (ps : List Pe) (l : La) : sumI ((List.range ps.length).map fun k => wtF ps k l) = netI l * partsL ps l.w := by
  rw [parts_pt, Int.mul_comm, ← sumI_mul]
  congr 1
  apply List.map_congr_left
  intro k _
  rw [wt_pt, Int.mul_comm]
/-- All claims together are the pool. -/
theorem Seas.pool {ps : List Pe} {ls : List La} (_ : Seas ps ls) : sumI ((List.range ps.length).map (totF ps ls)) = sumI (ls.map netI) * denF ps ls := by
  have e : (List.range ps.length).map (totF ps ls) = (List.range ps.length).map (fun k => sumI (ls.map fun l => wtF ps k l * (denF ps ls / partsL ps l.w))) := by
    apply List.map_congr_left
    intro k _
    unfold totF
    congr 1
    apply List.map_congr_left
    intro l _
    exact claim_wt ps _ l k
  rw [e, sumI_swap (fun k l => wtF ps k l * (denF ps ls / partsL ps l.w)), ← sumI_mul]
  congr 1
  apply List.map_congr_left
  intro l hl
  rw [sumI_mul, wt_sum, Int.mul_assoc]
  congr 1
  rw [Int.mul_comm]
  exact Int.ediv_mul_cancel (denTo_dvd ps ls 1 l hl)
/-- A person's claim is at most the pool. -/
theorem Seas.totPool {ps : List Pe} {ls : List La} (h : Seas ps ls) {k : Nat} (hk : k < ps.length) : 0 ≤ totF ps ls k ∧ totF ps ls k ≤ sumI (ls.map netI) * denF ps ls := by
  refine ⟨(h.tot k).1, ?_⟩
  rw [← h.pool]
  refine sumI_mem_le _ (fun y hy => ?_) _ (List.mem_map.2 ⟨k, List.mem_range.2 hk, rfl⟩)
  obtain ⟨z, _, rfl⟩ := List.mem_map.1 hy
  exact (h.tot z).1
theorem Seas.sharePool {ps : List Pe} {ls : List La} (h : Seas ps ls) {k : Nat} (hk : k < ps.length) : 0 ≤ shareF ps ls k ∧ shareF ps ls k ≤ sumI (ls.map netI) := by
  refine ⟨(h.share k).1, ?_⟩
  have h1 := h.totPool hk
  have h2 := h.den
  unfold shareF
  exact Int.ediv_le_of_le_mul (by omega) h1.2
theorem shareF_deserts {ps : List Pe} {ls : List La} {k : Nat} {x : Pe} (hx : ps[k]? = some x) (hf : x.f = 2) : shareF ps ls k = 0 := by
  have : totF ps ls k = 0 := by
    unfold totF
    have e : ls.map (fun l => claimF ps (denF ps ls) l k) = ls.map fun _ => (0 : Int) := by
      apply List.map_congr_left
      intro l _
      unfold claimF
      rw [hx]
      simp [hf, shB]
    rw [e, sumI_zero]
  unfold shareF; rw [this]; simp
/-- What a person has in the end is the share, less what is worked off. -/
theorem endF_facts {f sh d : Int} (hf : 1 ≤ f ∧ f ≤ 3) (hs : 0 ≤ sh) (hd : 0 ≤ d) (h2 : f = 2 → sh = 0) :
    (endF f sh d).s = sh ∧ (endF f sh d).o + (endF f sh d).p = sh ∧ (endF f sh d).o + (endF f sh d).w + (endF f sh d).k = d ∧ 0 ≤ (endF f sh d).o ∧ (endF f sh d).o ≤ d ∧ 0 ≤ (endF f sh d).p ∧ (endF f sh d).p ≤ sh ∧ 0 ≤ (endF f sh d).w ∧ 0 ≤ (endF f sh d).k := by
  have hf3 : f = 1 ∨ f = 2 ∨ f = 3 := by omega
  unfold endF
  rcases hf3 with rfl | rfl | rfl
  · simp only [if_true, true_and]
    omega
  · have := h2 rfl
    subst this
    simp
    omega
  · simp only [show ¬ ((3 : Int) = 1) by decide, show ¬ ((3 : Int) = 2) by decide, if_false]
    simp only [true_and]
    omega
def endAt (ps : List Pe) (ls : List La) (k : Nat) : En := endF ((ps.getD k ⟨0, 0, 0⟩).f) (shareF ps ls k) ((ps.getD k ⟨0, 0, 0⟩).d)
theorem endsFrom_get {ps : List Pe} {ls : List La} {k : Nat} (hk : k < ps.length) : (endsFrom ps ls)[k]? = some (endAt ps ls k) := by
  unfold endsFrom
  simp [List.getElem?_map, List.getElem?_range hk]; rfl
theorem addHouseLen (m : Int) (l : List En) : (addHouse m l).length = l.length := by cases l <;> rfl
theorem addHouse_get (m : Int) (l : List En) (k : Nat) : (addHouse m l)[k]? = (l[k]?).map fun x => if k = 0 then { x with p := x.p + m } else x := by
  cases l with
  | nil => simp [addHouse]
  | cons x r =>
    cases k with
    | zero => simp [addHouse]
    | succ k => simp [addHouse]; 
theorem endsG {ps : List Pe} {ls : List La} {k : Nat} (hk : k < ps.length) : (endsF ps ls)[k]? = some (if k = 0 then { endAt ps ls k with p := (endAt ps ls k).p + moreF ps ls } else endAt ps ls k) := by
  unfold endsF
  rw [addHouse_get, endsFrom_get hk]; rfl
theorem endsFLen (ps : List Pe) (ls : List La) : (endsF ps ls).length = ps.length := by
  unfold endsF; rw [addHouseLen]; simp [endsFrom]
theorem Seas.at {ps : List Pe} {ls : List La} (h : Seas ps ls) {k : Nat} (hk : k < ps.length) : ∃ x, ps[k]? = some x ∧ ps.getD k ⟨0, 0, 0⟩ = x ∧ 0 ≤ x.d ∧ x.d ≤ 100000 ∧ 1 ≤ x.f ∧ x.f ≤ 3 ∧ (k = 0 → x.d = 0 ∧ x.f = 1) := by
  have hx := List.getElem?_eq_getElem hk
  have hp := h.pe _ (List.getElem_mem hk)
  refine ⟨ps[k], hx, ?_, hp.2.2.1, hp.2.2.2.1, hp.2.2.2.2.1, hp.2.2.2.2.2, ?_⟩
  · rw [List.getD_eq_getElem?_getD, hx]; rfl
  · rintro rfl
    obtain ⟨y, r, rfl, h1, h2⟩ := h.house
    exact ⟨h1, h2⟩
theorem Seas.endFacts {ps : List Pe} {ls : List La} (h : Seas ps ls) {k : Nat} (hk : k < ps.length) : ∃ x, ps[k]? = some x ∧ (endAt ps ls k).s = shareF ps ls k ∧ (endAt ps ls k).o + (endAt ps ls k).p = shareF ps ls k ∧ (endAt ps ls k).o + (endAt ps ls k).w + (endAt ps ls k).k = x.d ∧ 0 ≤ (endAt ps ls k).o ∧ (endAt ps ls k).o ≤ x.d ∧ 0 ≤ (endAt ps ls k).p ∧ (endAt ps ls k).p ≤ shareF ps ls k ∧ 0 ≤ (endAt ps ls k).w ∧ 0 ≤ (endAt ps ls k).k ∧ x.d ≤ 100000 := by
  obtain ⟨x, hx, he, h1, h2, h3, h4, _⟩ := h.at hk
  have hs := h.sharePool hk
  have := endF_facts (f := x.f) (sh := shareF ps ls k) (d := x.d) ⟨h3, h4⟩ hs.1 h1 (fun e => shareF_deserts hx e)
  refine ⟨x, hx, ?_⟩
  unfold endAt
  rw [he]
  exact ⟨this.1, this.2.1, this.2.2.1, this.2.2.2.1, this.2.2.2.2.1, this.2.2.2.2.2.1, this.2.2.2.2.2.2.1, this.2.2.2.2.2.2.2.1, this.2.2.2.2.2.2.2.2, h2⟩
end Go.Proofs
namespace Go.Proofs
open Go.RowKit Go.Shelf
attribute [local go_sem ↓] Go.wp_at_zero Go.wp_at_succ

/-- A law's season in its box. -/
structure SBx (w : World) (cs : Array Value) (W : World) : Prop where
  below : Below w.heap.size w W
  box : Has W w.heap.size 25 cs
theorem SBx.keep {w W W' : World} {cs : Array Value} (h : SBx w cs W) (hb : Below W.heap.size W W') : SBx w cs W' := ⟨nextB h.below hb, h.box.after hb⟩
theorem SBx.start (w : World) (cs : Array Value) : SBx w cs (w.alloc (.cells cs 25)) := ⟨newB (Below.refl _ _) _, Has.new w 25 _⟩
def shortB (s : Sv) : Bool := decide (s.pn ≤ 9) && decide (s.ln ≤ 9)
theorem short_c (s : Sv) (w : World) : Calls Tryz.prog 23 #[s.val] w fun e w' => e = .returned (.bool (shortB s)) ∧ Below w.heap.size w w' := by
  obtain ⟨pA, lA, pn, pc, ln, lc, ps, ls⟩ := s
  simp only [Sv.val, shortB]
  by_cases h1 : pn ≤ 9
  · by_cases h2 : ln ≤ 9
    · go_enter Tryz.func23, Tryz.ntmps23
      go_wp2
      exact bodyPost_ret (results_tmp rfl _ _ _) rfl ⟨by simp [h1]; omega, newB (Below.refl _ _) _⟩
    · go_enter Tryz.func23, Tryz.ntmps23
      go_wp2
      exact bodyPost_ret (results_tmp rfl _ _ _) rfl ⟨by simp [h1]; omega, newB (Below.refl _ _) _⟩
  · go_enter Tryz.func23, Tryz.ntmps23
    go_wp2
    exact bodyPost_ret (results_tmp rfl _ _ _) rfl ⟨by simp, newB (Below.refl _ _) _⟩

end Go.Proofs
namespace Go.Proofs
open Go.RowKit Go.Shelf
attribute [local go_sem ↓] Go.wp_at_zero Go.wp_at_succ

end Go.Proofs
namespace Go.Proofs
open Go.RowKit Go.Shelf
attribute [local go_sem ↓] Go.wp_at_zero Go.wp_at_succ

end Go.Proofs
