/-
  Contracts of the laws' own short and few, and of the specification's Settle, hold at every season of moderate size.
-/
import Derived.Lib.Hide
import Derived.Test.YtplhaohcmhepbaaGreatDoorP1
import Derived.Test.YtplhaohcmhepbaaGreatDoorP11
import Derived.Test.YtplhaohcmhepbaaGreatDoorP12
import Derived.Test.YtplhaohcmhepbaaGreatDoorP10
namespace Go.Proofs
/-- A goal that a walk leaves as it is. -/
structure Hold (p : Prop) : Prop where out : p
end Go.Proofs
namespace Go.Proofs

/-- A sum of fractions a / p, times a common denominator. -/
def fsum (D : Int) (xs : List (Int × Int)) : Int := sumI (xs.map fun x => x.1 * (D / x.2))
structure Dv (D : Int) (xs : List (Int × Int)) : Prop where
  pos : 1 ≤ D
  dv : ∀ x ∈ xs, 1 ≤ x.2 ∧ x.2 ∣ D
theorem Dv.cons {D : Int} {x : Int × Int} {xs : List (Int × Int)} (h : Dv D (x :: xs)) : 1 ≤ x.2 ∧ x.2 ∣ D ∧ Dv D xs :=
  ⟨(h.dv x (by simp)).1, (h.dv x (by simp)).2, h.pos, fun y hy => h.dv y (by simp [hy])⟩
theorem Dv.mul {D E : Int} {xs : List (Int × Int)} (h : Dv D xs) (hE : 1 ≤ E) : Dv (D * E) xs :=
  ⟨by have := Int.mul_le_mul h.pos hE (by omega) (by have := h.pos; omega); simpa using this, fun x hx => ⟨(h.dv x hx).1, Int.dvd_trans (h.dv x hx).2 (Int.dvd_mul_right ..)⟩⟩
theorem fsum_scale (D E : Int) : ∀ (xs : List (Int × Int)), Dv D xs → fsum (D * E) xs = fsum D xs * E
  | [], _ => by simp [fsum, sumI]
  | x :: r, h => by
    obtain ⟨h1, ⟨m, hm⟩, h3⟩ := h.cons
    have ih := fsum_scale D E r h3
    simp only [fsum, List.map_cons, sumI] at ih ⊢
    rw [ih, Int.add_mul]
    congr 1
    rw [hm, Int.mul_assoc, Int.mul_ediv_cancel_left _ (by omega), Int.mul_ediv_cancel_left _ (by omega), Int.mul_assoc]
/-- The floor of the sum does not depend on the denominator. -/
theorem fsum_floor {D E : Int} {xs : List (Int × Int)} (h : Dv D xs) (g : Dv E xs) : fsum D xs / D = fsum E xs / E := by
  have hD := h.pos; have hE := g.pos
  have e1 := fsum_scale D E xs h
  have e2 := fsum_scale E D xs g
  have e3 : fsum D xs * E = fsum E xs * D := by rw [← e1, ← e2, Int.mul_comm D E]
  have a1 : fsum D xs / D = (fsum D xs * E) / (D * E) := (Int.mul_ediv_mul_of_pos_left _ _ (by omega)).symm
  have a2 : fsum E xs / E = (fsum E xs * D) / (E * D) := (Int.mul_ediv_mul_of_pos_left _ _ (by omega)).symm
  rw [a1, a2, e3, Int.mul_comm D E]
/-- A fraction is no more than another one. -/
def FLe (x y : Int × Int) : Prop := x.1 * y.2 ≤ y.1 * x.2
theorem fsum_le (D : Int) : ∀ (xs ys : List (Int × Int)), Dv D xs → Dv D ys → xs.length = ys.length → (∀ (i : Nat) x y, xs[i]? = some x → ys[i]? = some y → FLe x y) → fsum D xs ≤ fsum D ys
  | [], [], _, _, _, _ => by simp [fsum]
  | x :: r, y :: s, h, g, hl, hle => by
    obtain ⟨h1, ⟨m, hm⟩, h3⟩ := h.cons
    obtain ⟨g1, ⟨n, hn⟩, g3⟩ := g.cons
    have ih := fsum_le D r s h3 g3 (by simpa using hl) (fun i a b ha hb => hle (i + 1) a b (by simpa using ha) (by simpa using hb))
    have h0 : FLe x y := hle 0 x y rfl rfl
    simp only [fsum, List.map_cons, sumI] at ih ⊢
    have e1 : D / x.2 = m := by rw [hm, Int.mul_ediv_cancel_left _ (by omega)]
    have e2 : D / y.2 = n := by rw [hn, Int.mul_ediv_cancel_left _ (by omega)]
    rw [e1, e2]
    have hmn : x.2 * m = y.2 * n := by rw [← hm, ← hn]
    have hD := h.pos
    have key : x.1 * m ≤ y.1 * n := by
      have hp : 0 < x.2 * y.2 := Int.mul_pos (by omega) (by omega)
      refine Int.le_of_mul_le_mul_right (a := x.2 * y.2) ?_ hp
      have h5 : x.1 * m * (x.2 * y.2) = x.1 * y.2 * (x.2 * m) := by
        rw [Int.mul_assoc, Int.mul_assoc]; congr 1; rw [Int.mul_left_comm m, Int.mul_comm m, Int.mul_left_comm]
      have h6 : y.1 * n * (x.2 * y.2) = y.1 * x.2 * (y.2 * n) := by
        rw [Int.mul_assoc, Int.mul_assoc]; congr 1; rw [Int.mul_comm n, Int.mul_assoc]
      rw [h5, h6, ← hmn]
      exact Int.mul_le_mul_of_nonneg_right h0 (by rw [← hm]; omega)
    omega
theorem floor_le {D E : Int} {xs ys : List (Int × Int)} (h : Dv D xs) (g : Dv E ys) (hl : xs.length = ys.length) (hle : ∀ (i : Nat) x y, xs[i]? = some x → ys[i]? = some y → FLe x y) : fsum D xs / D ≤ fsum E ys / E := by
  have h1 := h.mul g.pos
  have g1 : Dv (D * E) ys := by rw [Int.mul_comm]; exact g.mul h.pos
  rw [fsum_floor h h1, fsum_floor g g1]
  exact Int.ediv_le_ediv (by have := h1.pos; omega) (fsum_le _ _ _ h1 g1 hl hle)

/-- What a person's parts of a landing's net are. -/
def wtF (ps : List Pe) (k : Nat) (l : La) : Int :=
  match ps[k]? with
  | some x => if hasB l.w k && shB x.f then netI l * x.p else 0
  | none => 0
def wp (ps : List Pe) (k : Nat) (l : La) : Int × Int := (wtF ps k l, partsL ps l.w)
theorem claim_wt (ps : List Pe) (D : Int) (l : La) (k : Nat) : claimF ps D l k = wtF ps k l * (D / partsL ps l.w) := by
  unfold claimF wtF
  cases ps[k]? with
  | none => simp
  | some x =>
    simp only
    split
    · rw [Int.mul_assoc, Int.mul_assoc, Int.mul_comm (D / partsL ps l.w)]
    · simp
theorem tot_fsum (ps : List Pe) (ls : List La) (k : Nat) : totF ps ls k = fsum (denF ps ls) (ls.map (wp ps k)) := by
  unfold totF fsum
  rw [List.map_map]
  congr 1
  apply List.map_congr_left
  intro l _
  simp only [Function.comp, wp]
  exact claim_wt ps _ l k
theorem Seas.dv {ps : List Pe} {ls : List La} (h : Seas ps ls) (k : Nat) : Dv (denF ps ls) (ls.map (wp ps k)) := by
  refine ⟨h.den.1, fun x hx => ?_⟩
  obtain ⟨l, hl, rfl⟩ := List.mem_map.1 hx
  exact ⟨(h.parts (h.la l hl).2.2.2.2.2.2).1, denTo_dvd ps ls 1 l hl⟩
theorem share_eq (ps : List Pe) (ls : List La) (k : Nat) : shareF ps ls k = fsum (denF ps ls) (ls.map (wp ps k)) / denF ps ls := by rw [← tot_fsum]; rfl
theorem share_le {ps qs : List Pe} {ls ms : List La} (h : Seas ps ls) (g : Seas qs ms) (k : Nat) (hl : ls.length = ms.length) (hle : ∀ (i : Nat) x y, ls[i]? = some x → ms[i]? = some y → FLe (wp ps k x) (wp qs k y)) : shareF ps ls k ≤ shareF qs ms k := by
  rw [share_eq, share_eq]
  refine floor_le (h.dv k) (g.dv k) (by simpa using hl) (fun i a b ha hb => ?_)
  simp only [List.getElem?_map, Option.map_eq_some_iff] at ha hb
  obtain ⟨x, hx, rfl⟩ := ha
  obtain ⟨y, hy, rfl⟩ := hb
  exact hle i x y hx hy

theorem sumI_perm {a b : List Int} (h : a.Perm b) : sumI a = sumI b := by
  induction h with
  | nil => rfl
  | cons x _ ih => simp [sumI, ih]
  | swap x y r => simp only [sumI]; omega
  | trans _ _ h1 h2 => exact h1.trans h2
theorem fsum_perm {D : Int} {a b : List (Int × Int)} (h : a.Perm b) : fsum D a = fsum D b := sumI_perm (h.map _)
theorem share_perm {ps : List Pe} {ls ms : List La} (h : Seas ps ls) (g : Seas ps ms) (hp : ls.Perm ms) (k : Nat) : shareF ps ls k = shareF ps ms k := by
  rw [share_eq, share_eq, ← fsum_perm (hp.map _)]
  exact fsum_floor (h.dv k) ⟨(g.dv k).pos, fun x hx => (g.dv k).dv x ((hp.map _).mem_iff.1 hx)⟩
/-- What all have in the end hangs on the shares, and on the sums of nets and deficits, alone. -/
theorem ends_congr {ps : List Pe} {ls ms : List La} (h : ∀ k, k < ps.length → shareF ps ls k = shareF ps ms k) (hd : sumI (ls.map defI) = sumI (ms.map defI)) : endsF ps ls = endsF ps ms := by
  have e : endsFrom ps ls = endsFrom ps ms := by
    unfold endsFrom
    apply List.map_congr_left
    intro k hk
    rw [h k (List.mem_range.1 hk)]
  unfold endsF moreF
  rw [e, hd]
theorem box_congr {ps : List Pe} {ls ms : List La} (h : ∀ k, k < ps.length → shareF ps ls k = shareF ps ms k) (hd : sumI (ls.map netI) = sumI (ms.map netI)) : boxF ps ls = boxF ps ms := by
  unfold boxF
  rw [hd]
  congr 2
  apply List.map_congr_left
  intro k hk
  exact h k (List.mem_range.1 hk)
theorem ends_perm {ps : List Pe} {ls ms : List La} (h : Seas ps ls) (g : Seas ps ms) (hp : ls.Perm ms) : endsF ps ls = endsF ps ms ∧ boxF ps ls = boxF ps ms :=
  ⟨ends_congr (fun k _ => share_perm h g hp k) (sumI_perm (hp.map _)), box_congr (fun k _ => share_perm h g hp k) (sumI_perm (hp.map _))⟩
end Go.Proofs
namespace Go.Proofs

theorem sumI_add {α : Type} (f g : α → Int) : ∀ xs : List α, sumI (xs.map fun x => f x + g x) = sumI (xs.map f) + sumI (xs.map g)
  | [] => by simp [sumI]
  | x :: r => by simp only [List.map_cons, sumI, sumI_add f g r]; omega
theorem sumI_zero {α : Type} : ∀ xs : List α, sumI (xs.map fun _ => (0 : Int)) = 0
  | [] => rfl
  | x :: r => by simp only [List.map_cons, sumI, sumI_zero r]; rfl
theorem sumI_swap {α β : Type} (f : α → β → Int) (ys : List β) : ∀ xs : List α, sumI (xs.map fun x => sumI (ys.map (f x))) = sumI (ys.map fun y => sumI (xs.map fun x => f x y))
  | [] => by simp [sumI, sumI_zero]
  | x :: r => by
    simp only [List.map_cons, sumI, sumI_swap f ys r]
    rw [← sumI_add]
theorem sumI_mul {α : Type} (f : α → Int) (c : Int) : ∀ xs : List α, sumI (xs.map fun x => f x * c) = sumI (xs.map f) * c
  | [] => by simp [sumI]
  | x :: r => by simp only [List.map_cons, sumI, sumI_mul f c r, Int.add_mul]
theorem sumI_mono {α : Type} {f g : α → Int} : ∀ xs : List α, (∀ x ∈ xs, f x ≤ g x) → sumI (xs.map f) ≤ sumI (xs.map g)
  | [], _ => by simp [sumI]
  | x :: r, h => by
    have h1 := h x (by simp)
    have h2 := sumI_mono r (fun y hy => h y (by simp [hy]))
    simp only [List.map_cons, sumI]; omega
theorem sumI_const {α : Type} (c : Int) : ∀ xs : List α, sumI (xs.map fun _ => c) = c * xs.length
  | [] => by simp [sumI]
  | x :: r => by
    have e : c * ((x :: r).length : Int) = c * (r.length : Int) + c := by simp [Int.mul_add]
    rw [e]; simp only [List.map_cons, sumI, sumI_const c r]; omega

/-- A person's parts of a landing of this crew. -/
def ptF (ps : List Pe) (w : Int) (k : Nat) : Int :=
  match ps[k]? with
  | some x => if hasB w k && shB x.f then x.p else 0
  | none => 0
theorem wt_pt (ps : List Pe) (k : Nat) (l : La) : wtF ps k l = netI l * ptF ps l.w k := by
  unfold wtF ptF
  cases ps[k]? with
  | none => simp
  | some x => simp only; split <;> simp
theorem parts_from (w : Int) : ∀ (ps : List Pe) (j : Nat), sumI ((shFrom w j ps).map Pe.p) = sumI ((List.range ps.length).map fun k => match ps[k]? with | some x => if hasB w (j + k) && shB x.f then x.p else 0 | none => 0)
  | [], j => by simp [shFrom]
  | x :: r, j => by
    have ih := parts_from w r (j + 1)
    simp only [List.length_cons, List.range_succ_eq_map, List.map_cons, List.map_map, sumI]
    have e : (fun k => match (x :: r)[k]? with | some x => if hasB w (j + k) && shB x.f then x.p else 0 | none => 0) ∘ Nat.succ = (fun k => match r[k]? with | some x => if hasB w (j + 1 + k) && shB x.f then x.p else 0 | none => 0) := by
      funext k
      simp only [Function.comp, Nat.succ_eq_add_one, List.getElem?_cons_succ]
      rw [show j + (k + 1) = j + 1 + k by omega]
    rw [e, ← ih]
    simp only [shFrom, List.getElem?_cons_zero, Nat.add_zero]
    split <;> simp [sumI]
theorem parts_pt (ps : List Pe) (w : Int) : partsL ps w = sumI ((List.range ps.length).map (ptF ps w)) := by
  unfold partsL
  rw [parts_from w ps 0]
  congr 1
  apply List.map_congr_left
  intro k _
  simp only [Nat.zero_add]
  rfl
theorem wt_sum (ps : List Pe) (l : La) : sumI ((List.range ps.length).map fun k => wtF ps k l) = netI l * partsL ps l.w := by
  rw [parts_pt, Int.mul_comm, ← sumI_mul]
  congr 1
  apply List.map_congr_left
  intro k _
  rw [wt_pt, Int.mul_comm]
/-- All claims together are the pool. -/
theorem Seas.pool {ps : List Pe} {ls : List La} (_ : Seas ps ls) : sumI ((List.range ps.length).map (totF ps ls)) = sumI (ls.map netI) * denF ps ls := by
  have e : (List.range ps.length).map (totF ps ls) = (List.range ps.length).map (fun k => sumI (ls.map fun l => wtF ps k l * (denF ps ls / partsL ps l.w))) := by
    apply List.map_congr_left
    intro k _
    unfold totF
    congr 1
    apply List.map_congr_left
    intro l _
    exact claim_wt ps _ l k
  rw [e, sumI_swap (fun k l => wtF ps k l * (denF ps ls / partsL ps l.w)), ← sumI_mul]
  congr 1
  apply List.map_congr_left
  intro l hl
  rw [sumI_mul, wt_sum, Int.mul_assoc]
  congr 1
  rw [Int.mul_comm]
  exact Int.ediv_mul_cancel (denTo_dvd ps ls 1 l hl)
theorem Seas.netB {ps : List Pe} {ls : List La} (h : Seas ps ls) : 0 ≤ sumI (ls.map netI) ∧ sumI (ls.map netI) ≤ 600000 := by
  have := sumI_bd (ls.map netI) 100000 (fun x hx => by
    obtain ⟨l, hl, rfl⟩ := List.mem_map.1 hx
    have hb := h.la l hl
    have := netI_bd ⟨hb.1, hb.2.1, hb.2.2.1, hb.2.2.2.1⟩; omega)
  have h2 := sumI_nonneg (ls.map netI) (fun x hx => by
    obtain ⟨l, hl, rfl⟩ := List.mem_map.1 hx
    have hb := h.la l hl
    have := netI_bd ⟨hb.1, hb.2.1, hb.2.2.1, hb.2.2.2.1⟩; omega)
  have hf := h.few
  rw [List.length_map] at this
  omega
theorem Seas.defB {ps : List Pe} {ls : List La} (h : Seas ps ls) : 0 ≤ sumI (ls.map defI) ∧ sumI (ls.map defI) ≤ 600000 := by
  have hd : ∀ x ∈ ls.map defI, 0 ≤ x ∧ x ≤ 100000 := fun x hx => by
    obtain ⟨l, hl, rfl⟩ := List.mem_map.1 hx
    have hb := h.la l hl
    unfold defI; omega
  have := sumI_bd (ls.map defI) 100000 (fun x hx => by have := hd x hx; omega)
  have h2 := sumI_nonneg (ls.map defI) (fun x hx => (hd x hx).1)
  have hf := h.few
  rw [List.length_map] at this
  omega
theorem net_def (ls : List La) : sumI (ls.map netI) - sumI (ls.map defI) = sumI (ls.map fun l => l.g - l.c) := by
  have e : sumI (ls.map netI) = sumI (ls.map fun l => (l.g - l.c) + defI l) := by
    congr 1
    apply List.map_congr_left
    intro l _
    unfold netI defI; omega
  rw [e, sumI_add]; omega
/-- A person's claim is at most the pool. -/
theorem Seas.totPool {ps : List Pe} {ls : List La} (h : Seas ps ls) {k : Nat} (hk : k < ps.length) : 0 ≤ totF ps ls k ∧ totF ps ls k ≤ sumI (ls.map netI) * denF ps ls := by
  refine ⟨(h.tot k).1, ?_⟩
  rw [← h.pool]
  refine sumI_mem_le _ (fun y hy => ?_) _ (List.mem_map.2 ⟨k, List.mem_range.2 hk, rfl⟩)
  obtain ⟨z, _, rfl⟩ := List.mem_map.1 hy
  exact (h.tot z).1
theorem Seas.sharePool {ps : List Pe} {ls : List La} (h : Seas ps ls) {k : Nat} (hk : k < ps.length) : 0 ≤ shareF ps ls k ∧ shareF ps ls k ≤ sumI (ls.map netI) := by
  refine ⟨(h.share k).1, ?_⟩
  have h1 := h.totPool hk
  have h2 := h.den
  unfold shareF
  exact Int.ediv_le_of_le_mul (by omega) h1.2
/-- The box has fewer coins than there are persons. -/
theorem Seas.boxB {ps : List Pe} {ls : List La} (h : Seas ps ls) : 0 ≤ boxF ps ls ∧ boxF ps ls < ps.length := by
  have hd := h.den
  have hp := h.pool
  have hn : 2 ≤ ps.length := h.two
  have e1 : sumI ((List.range ps.length).map (shareF ps ls)) * denF ps ls ≤ sumI ((List.range ps.length).map (totF ps ls)) := by
    rw [← sumI_mul]
    refine sumI_mono _ (fun k _ => ?_)
    unfold shareF
    exact Int.ediv_mul_le _ (by omega)
  have e2 : sumI ((List.range ps.length).map (totF ps ls)) ≤ sumI ((List.range ps.length).map (shareF ps ls)) * denF ps ls + (denF ps ls - 1) * ps.length := by
    have := sumI_mono (f := totF ps ls) (g := fun k => shareF ps ls k * denF ps ls + (denF ps ls - 1)) (List.range ps.length) (fun k _ => by
      have := Int.lt_ediv_add_one_mul_self (totF ps ls k) (b := denF ps ls) (by omega)
      rw [Int.add_mul] at this
      show totF ps ls k ≤ totF ps ls k / denF ps ls * denF ps ls + (denF ps ls - 1)
      omega)
    rw [sumI_add, sumI_mul, sumI_const, List.length_range] at this
    exact this
  rw [hp] at e1 e2
  unfold boxF
  generalize sumI ((List.range ps.length).map (shareF ps ls)) = S at *
  generalize sumI (ls.map netI) = N at *
  generalize denF ps ls = d at *
  constructor
  · have := Int.le_of_mul_le_mul_right e1 (by omega); omega
  · have h3 : (N - S) * d < (ps.length : Int) * d := by
      rw [Int.sub_mul]
      have : (d - 1) * (ps.length : Int) = (ps.length : Int) * d - ps.length := by rw [Int.sub_mul, Int.mul_comm]; omega
      omega
    exact Int.lt_of_mul_lt_mul_right h3 (by omega)
theorem shareF_deserts {ps : List Pe} {ls : List La} {k : Nat} {x : Pe} (hx : ps[k]? = some x) (hf : x.f = 2) : shareF ps ls k = 0 := by
  have : totF ps ls k = 0 := by
    unfold totF
    have e : ls.map (fun l => claimF ps (denF ps ls) l k) = ls.map fun _ => (0 : Int) := by
      apply List.map_congr_left
      intro l _
      unfold claimF
      rw [hx]
      simp [hf, shB]
    rw [e, sumI_zero]
  unfold shareF; rw [this]; simp
/-- What a person has in the end is the share, less what is worked off. -/
theorem endF_facts {f sh d : Int} (hf : 1 ≤ f ∧ f ≤ 3) (hs : 0 ≤ sh) (hd : 0 ≤ d) (h2 : f = 2 → sh = 0) :
    (endF f sh d).s = sh ∧ (endF f sh d).o + (endF f sh d).p = sh ∧ (endF f sh d).o + (endF f sh d).w + (endF f sh d).k = d ∧ 0 ≤ (endF f sh d).o ∧ (endF f sh d).o ≤ d ∧ 0 ≤ (endF f sh d).p ∧ (endF f sh d).p ≤ sh ∧ 0 ≤ (endF f sh d).w ∧ 0 ≤ (endF f sh d).k := by
  have hf3 : f = 1 ∨ f = 2 ∨ f = 3 := by omega
  unfold endF
  rcases hf3 with rfl | rfl | rfl
  · simp only [if_true, true_and]
    omega
  · have := h2 rfl
    subst this
    simp
    omega
  · simp only [show ¬ ((3 : Int) = 1) by decide, show ¬ ((3 : Int) = 2) by decide, if_false]
    simp only [true_and]
    omega
def endAt (ps : List Pe) (ls : List La) (k : Nat) : En := endF ((ps.getD k ⟨0, 0, 0⟩).f) (shareF ps ls k) ((ps.getD k ⟨0, 0, 0⟩).d)
theorem endsFrom_get {ps : List Pe} {ls : List La} {k : Nat} (hk : k < ps.length) : (endsFrom ps ls)[k]? = some (endAt ps ls k) := by
  unfold endsFrom
  simp [List.getElem?_map, List.getElem?_range hk]; rfl
theorem addHouseLen (m : Int) (l : List En) : (addHouse m l).length = l.length := by cases l <;> rfl
theorem addHouse_get (m : Int) (l : List En) (k : Nat) : (addHouse m l)[k]? = (l[k]?).map fun x => if k = 0 then { x with p := x.p + m } else x := by
  cases l with
  | nil => simp [addHouse]
  | cons x r =>
    cases k with
    | zero => simp [addHouse]
    | succ k => simp [addHouse]; 
theorem endsG {ps : List Pe} {ls : List La} {k : Nat} (hk : k < ps.length) : (endsF ps ls)[k]? = some (if k = 0 then { endAt ps ls k with p := (endAt ps ls k).p + moreF ps ls } else endAt ps ls k) := by
  unfold endsF
  rw [addHouse_get, endsFrom_get hk]; rfl
theorem endsFLen (ps : List Pe) (ls : List La) : (endsF ps ls).length = ps.length := by
  unfold endsF; rw [addHouseLen]; simp [endsFrom]
theorem Seas.at {ps : List Pe} {ls : List La} (h : Seas ps ls) {k : Nat} (hk : k < ps.length) : ∃ x, ps[k]? = some x ∧ ps.getD k ⟨0, 0, 0⟩ = x ∧ 0 ≤ x.d ∧ x.d ≤ 100000 ∧ 1 ≤ x.f ∧ x.f ≤ 3 ∧ (k = 0 → x.d = 0 ∧ x.f = 1) := by
  have hx := List.getElem?_eq_getElem hk
  have hp := h.pe _ (List.getElem_mem hk)
  refine ⟨ps[k], hx, ?_, hp.2.2.1, hp.2.2.2.1, hp.2.2.2.2.1, hp.2.2.2.2.2, ?_⟩
  · rw [List.getD_eq_getElem?_getD, hx]; rfl
  · rintro rfl
    obtain ⟨y, r, rfl, h1, h2⟩ := h.house
    exact ⟨h1, h2⟩
theorem Seas.endFacts {ps : List Pe} {ls : List La} (h : Seas ps ls) {k : Nat} (hk : k < ps.length) : ∃ x, ps[k]? = some x ∧ (endAt ps ls k).s = shareF ps ls k ∧ (endAt ps ls k).o + (endAt ps ls k).p = shareF ps ls k ∧ (endAt ps ls k).o + (endAt ps ls k).w + (endAt ps ls k).k = x.d ∧ 0 ≤ (endAt ps ls k).o ∧ (endAt ps ls k).o ≤ x.d ∧ 0 ≤ (endAt ps ls k).p ∧ (endAt ps ls k).p ≤ shareF ps ls k ∧ 0 ≤ (endAt ps ls k).w ∧ 0 ≤ (endAt ps ls k).k ∧ x.d ≤ 100000 := by
  obtain ⟨x, hx, he, h1, h2, h3, h4, _⟩ := h.at hk
  have hs := h.sharePool hk
  have := endF_facts (f := x.f) (sh := shareF ps ls k) (d := x.d) ⟨h3, h4⟩ hs.1 h1 (fun e => shareF_deserts hx e)
  refine ⟨x, hx, ?_⟩
  unfold endAt
  rw [he]
  exact ⟨this.1, this.2.1, this.2.2.1, this.2.2.2.1, this.2.2.2.2.1, this.2.2.2.2.2.1, this.2.2.2.2.2.2.1, this.2.2.2.2.2.2.2.1, this.2.2.2.2.2.2.2.2, h2⟩
theorem sumI_house (m : Int) : ∀ l : List En, l ≠ [] → sumI ((addHouse m l).map En.p) = sumI (l.map En.p) + m
  | [], h => absurd rfl h
  | x :: r, _ => by simp only [addHouse, List.map_cons, sumI]; omega
/-- What is paid, and the box, are all that was sold less all that it cost. -/
theorem Seas.kept {ps : List Pe} {ls : List La} (h : Seas ps ls) : sumI ((endsF ps ls).map En.p) + boxF ps ls = sumI (ls.map fun l => l.g - l.c) := by
  have hne : endsFrom ps ls ≠ [] := by
    intro e
    have e2 := congrArg List.length e
    have h2 := h.two
    have e3 : (endsFrom ps ls).length = ps.length := by simp [endsFrom]
    rw [e3, List.length_nil] at e2
    omega
  have e1 : sumI ((endsFrom ps ls).map En.p) + sumI ((endsFrom ps ls).map En.o) = sumI ((List.range ps.length).map (shareF ps ls)) := by
    unfold endsFrom
    rw [List.map_map, List.map_map, ← sumI_add]
    congr 1
    apply List.map_congr_left
    intro k hk
    obtain ⟨x, _, _, h2, _⟩ := h.endFacts (List.mem_range.1 hk)
    simp only [Function.comp]
    change (endAt ps ls k).p + (endAt ps ls k).o = _
    omega
  unfold endsF
  rw [sumI_house _ _ hne]
  unfold moreF boxF
  rw [← net_def]
  omega
theorem Seas.offB {ps : List Pe} {ls : List La} (h : Seas ps ls) : 0 ≤ sumI ((endsFrom ps ls).map En.o) ∧ sumI ((endsFrom ps ls).map En.o) ≤ 600000 := by
  have hb : ∀ x ∈ (endsFrom ps ls).map En.o, 0 ≤ x ∧ x ≤ 100000 := fun x hx => by
    obtain ⟨y, hy, rfl⟩ := List.mem_map.1 hx
    obtain ⟨k, hk, rfl⟩ := List.mem_map.1 hy
    obtain ⟨z, _, _, _, _, h4, h5, _, _, _, _, h10⟩ := h.endFacts (List.mem_range.1 hk)
    change 0 ≤ (endAt ps ls k).o ∧ (endAt ps ls k).o ≤ 100000
    omega
  have h1 := sumI_bd _ 100000 (fun x hx => by have := hb x hx; omega)
  have h2 := sumI_nonneg _ (fun x hx => (hb x hx).1)
  have h6 := h.six
  have hl : ((endsFrom ps ls).map En.o).length = ps.length := by simp [endsFrom]
  rw [hl] at h1
  omega
/-- All numbers of the ends are few. -/
def FewE (k : Nat) (x : En) : Prop := 0 ≤ x.s ∧ x.s ≤ 10000000 ∧ 0 ≤ x.o ∧ x.o ≤ 10000000 ∧ -10000000 ≤ x.p ∧ x.p ≤ 10000000 ∧ 0 ≤ x.w ∧ x.w ≤ 10000000 ∧ 0 ≤ x.k ∧ x.k ≤ 10000000 ∧ (0 < k → 0 ≤ x.p)
theorem Seas.few' {ps : List Pe} {ls : List La} (h : Seas ps ls) {k : Nat} {x : En} (hx : (endsF ps ls)[k]? = some x) : FewE k x := by
  have hk : k < ps.length := by rw [← endsFLen ps ls]; exact (List.getElem?_eq_some_iff.1 hx).1
  rw [endsG hk] at hx
  cases hx
  obtain ⟨z, _, h1, h2, h3, h4, h5, h6, h7, h8, h9, h10⟩ := h.endFacts hk
  have hs := h.sharePool hk
  have hn := h.netB
  have ho := h.offB
  have hd := h.defB
  have hm : -600000 ≤ moreF ps ls ∧ moreF ps ls ≤ 600000 := by unfold moreF; omega
  unfold FewE
  split
  · simp only; omega
  · refine ⟨?_, ?_, ?_, ?_, ?_, ?_, ?_, ?_, ?_, ?_, ?_⟩ <;> omega
end Go.Proofs
namespace Go.Proofs
open Go.RowKit Go.Shelf
attribute [local go_sem ↓] Go.wp_at_zero Go.wp_at_succ

/-- A law's season in its box. -/
structure SBx (w : World) (cs : Array Value) (W : World) : Prop where
  below : Below w.heap.size w W
  box : Has W w.heap.size 25 cs
theorem SBx.keep {w W W' : World} {cs : Array Value} (h : SBx w cs W) (hb : Below W.heap.size W W') : SBx w cs W' := ⟨nextB h.below hb, h.box.after hb⟩
theorem SBx.start (w : World) (cs : Array Value) : SBx w cs (w.alloc (.cells cs 25)) := ⟨newB (Below.refl _ _) _, Has.new w 25 _⟩
def shortB (s : Sv) : Bool := decide (s.pn ≤ 9) && decide (s.ln ≤ 9)
theorem short_c (s : Sv) (w : World) : Calls Tryz.prog 23 #[s.val] w fun e w' => e = .returned (.bool (shortB s)) ∧ Below w.heap.size w w' := by
  obtain ⟨pA, lA, pn, pc, ln, lc, ps, ls⟩ := s
  simp only [Sv.val, shortB]
  by_cases h1 : pn ≤ 9
  · by_cases h2 : ln ≤ 9
    · go_enter Tryz.func23, Tryz.ntmps23
      go_wp2
      exact bodyPost_ret (results_tmp rfl _ _ _) rfl ⟨by simp [h1]; omega, newB (Below.refl _ _) _⟩
    · go_enter Tryz.func23, Tryz.ntmps23
      go_wp2
      exact bodyPost_ret (results_tmp rfl _ _ _) rfl ⟨by simp [h1]; omega, newB (Below.refl _ _) _⟩
  · go_enter Tryz.func23, Tryz.ntmps23
    go_wp2
    exact bodyPost_ret (results_tmp rfl _ _ _) rfl ⟨by simp, newB (Below.refl _ _) _⟩

set_option maxHeartbeats 4000000 in
set_option maxRecDepth 20000 in
theorem shareClaims_walk (s : Sv) (w : World) (hi : s.In w) (hI : ItoaAll w) : Calls Tryz.prog 3 #[s.val] w fun e w' => e = .returned (.bool true) ∧ Below w.heap.size w w' := by
  have HSh := Lib.hid fun (W : World) => short_c s W
  have HK := Lib.hid fun (W : World) (hb : Below w.heap.size w W) => knownLaw_c W (hI.keep hb)
  cases h0 : shortB s
  · rw [h0] at HSh
    clear h0 hi hI
    obtain ⟨pA, lA, pn, pc, ln, lc, ps, ls⟩ := s
    simp only [Sv.val] at *
    have EE := Lib.hid (SBx.start w #[.slice pA pn pc, .slice lA ln lc])
    go_enter Tryz.func3, Tryz.ntmps3
    go_wp2_with (first
      | (refine wpList_load_row rfl 25 _ rfl w.heap.size rfl 25 _ (0, 0) _ EE.out.box Tryz.underlying25 rfl (by kernel_rfl) ?_)
      | (go_at_call 23; refine (HSh.out _).mono ?_; rintro e w1 ⟨rfl, hb⟩; replace EE := Lib.hid (EE.out.keep hb); clear hb)
      | (go_at_call 24; refine (HK.out _ EE.out.below).mono ?_; rintro e w2 ⟨rfl, hb⟩; replace EE := Lib.hid (EE.out.keep hb); clear hb))
    exact bodyPost_ret (results_tmp rfl _ _ _) rfl ⟨rfl, EE.out.below⟩
  · have hsm : s.pn ≤ 9 ∧ s.ln ≤ 9 := by simpa [shortB] using h0
    rw [h0] at HSh
    have HCh := Lib.hid fun (W : World) (hb : Below w.heap.size w W) => check_c s (by omega) (by omega) W (hi.keep hb)
    have HSe := Lib.hid fun (W : World) (hb : Below w.heap.size w W) => refSeason_c s (by omega) (by omega) W (hi.keep hb)
    cases h1 : seasonB s.ps s.ls
    · have HCl := Lib.hid fun (W : World) (hb : Below w.heap.size w W) => claims_no s (by omega) (by omega) h1 W (hi.keep hb)
      rw [h1] at HCh HSe
      rw [show errI false = 2 from rfl] at HCh
      clear h0 h1 hi hI
      obtain ⟨pA, lA, pn, pc, ln, lc, ps, ls⟩ := s
      simp only [Sv.val] at *
      have EE := Lib.hid (SBx.start w #[.slice pA pn pc, .slice lA ln lc])
      go_enter Tryz.func3, Tryz.ntmps3
      go_wp2_with (first
        | (refine wpList_load_row rfl 25 _ rfl w.heap.size rfl 25 _ (0, 0) _ EE.out.box Tryz.underlying25 rfl (by kernel_rfl) ?_)
        | (go_at_call 23; refine (HSh.out _).mono ?_; rintro e w1 ⟨rfl, hb⟩; replace EE := Lib.hid (EE.out.keep hb); clear hb)
        | (go_at_call 25; refine (HCh.out _ EE.out.below).mono ?_; rintro e w2 ⟨rfl, hb⟩; replace EE := Lib.hid (EE.out.keep hb); clear hb)
        | (go_at_call 26; refine (HCl.out _ EE.out.below).mono ?_; rintro e w2 ⟨rfl, hb⟩; replace EE := Lib.hid (EE.out.keep hb); clear hb)
        | (go_at_call 27; refine (HSe.out _ EE.out.below).mono ?_; rintro e w2 ⟨rfl, hb⟩; replace EE := Lib.hid (EE.out.keep hb); clear hb)
        | (go_at_call 24; refine (HK.out _ EE.out.below).mono ?_; rintro e w2 ⟨rfl, hb⟩; replace EE := Lib.hid (EE.out.keep hb); clear hb))
      exact bodyPost_ret (results_tmp rfl _ _ _) rfl ⟨rfl, EE.out.below⟩
    · have hs := (seas_iff _ _).1 h1
      have HCl := Lib.hid fun (W : World) (hb : Below w.heap.size w W) => claims_ok s hs W (hi.keep hb)
      have HCo := Lib.hid fun (W : World) (hb : Below w.heap.size w W) => refCommon_c s hs W (hi.keep hb)
      have HRl := Lib.hid fun (W : World) (hb : Below w.heap.size w W) => refClaims_c s hs W (hi.keep hb)
      have HTl := Lib.hid (show (totL s.ps s.ls).length ≤ 1000000 by have := hs.six; simp [totL]; omega)
      rw [h1] at HCh HSe
      rw [show errI true = 0 from rfl] at HCh
      clear h0 h1 hi hI hs
      obtain ⟨pA, lA, pn, pc, ln, lc, ps, ls⟩ := s
      simp only [Sv.val] at *
      generalize totL ps ls = TL at *
      generalize denF ps ls = D at *
      have EE := Lib.hid (SBx.start w #[.slice pA pn pc, .slice lA ln lc])
      go_enter Tryz.func3, Tryz.ntmps3
      go_wp2_with (first
        | (refine wpList_load_row rfl 25 _ rfl w.heap.size rfl 25 _ (0, 0) _ EE.out.box Tryz.underlying25 rfl (by kernel_rfl) ?_)
        | (go_at_call 23; refine (HSh.out _).mono ?_; rintro e w1 ⟨rfl, hb⟩; replace EE := Lib.hid (EE.out.keep hb); clear hb)
        | (go_at_call 25; refine (HCh.out _ EE.out.below).mono ?_; rintro e w2 ⟨rfl, hb⟩; replace EE := Lib.hid (EE.out.keep hb); clear hb)
        | (go_at_call 26; refine (HCl.out _ EE.out.below).mono ?_; rintro e w3 ⟨v3, rfl, ho, hb⟩; replace EE := Lib.hid (EE.out.keep hb); obtain ⟨A3, c3, rfl, hs3, _⟩ := ho.sl; have S3 := Lib.hid hs3; clear hb ho hs3)
        | (go_at_call 27; refine (HSe.out _ EE.out.below).mono ?_; rintro e w4 ⟨rfl, hb⟩; replace EE := Lib.hid (EE.out.keep hb); have ct := EE.out.box.cell; replace S3 := Lib.hid (S3.out.keep hb); clear hb)
        | (go_at_call 28; refine (HCo.out _ EE.out.below).mono ?_; rintro e w5 ⟨rfl, hb⟩; replace EE := Lib.hid (EE.out.keep hb); have ct := EE.out.box.cell; replace S3 := Lib.hid (S3.out.keep hb); clear hb)
        | (go_at_call 30; refine (HRl.out _ EE.out.below).mono ?_; rintro e w6 ⟨v6, rfl, ho, hb⟩; replace EE := Lib.hid (EE.out.keep hb); replace S3 := Lib.hid (S3.out.keep hb); obtain ⟨A6, c6, rfl, hs6, _⟩ := ho.sl; have S6 := Lib.hid hs6; clear hb ho hs6)
        | (go_at_call 29; refine (same_c A3 A6 _ _ c3 c6 TL TL HTl.out _ S3.out S6.out).mono ?_; rintro e w7 ⟨rfl, hb⟩; rw [decide_eq_true (rfl : TL = TL)]; replace EE := Lib.hid (EE.out.keep hb); clear hb)
        | (go_at_call 24; refine (HK.out _ EE.out.below).mono ?_; rintro e w8 ⟨rfl, hb⟩; replace EE := Lib.hid (EE.out.keep hb); clear hb))
      exact bodyPost_ret (results_tmp rfl _ _ _) rfl ⟨rfl, EE.out.below⟩
end Go.Proofs
namespace Go.Proofs
open Go.RowKit Go.Shelf
attribute [local go_sem ↓] Go.wp_at_zero Go.wp_at_succ

set_option maxHeartbeats 4000000 in
set_option maxRecDepth 20000 in
/-- The law's few, where all numbers are. -/
theorem few_c (A : Option Addr) (n c : Nat) (xs : List En) (hn : n ≤ 9) (hF : ∀ (k : Nat) x, xs[k]? = some x → FewE k x) (w : World) (hA : SlOf En.cs 5 w A n xs) :
    Calls Tryz.prog 34 #[.slice A n c] w fun e w' => e = .returned (.bool true) ∧ Below w.heap.size w w' := by
  have HA := Lib.hid hA; have HN := Lib.hid hA.1; have HF := Lib.hid hF
  have hn9 : (n : Int) ≤ 9 := by omega
  clear hA hF
  go_enter Tryz.func34, Tryz.ntmps34
  go_wp2
  go_loopw [3] (fun v wr => ∃ k : Nat, k ≤ n ∧ v = .int .i64 k ∧ Below w.heap.size w wr) (fun v _ => n - (intOf v).toNat)
  case atStart => exact ⟨0, by omega, rfl, Below.refl _ _⟩
  case round =>
    obtain ⟨k, hk, rfl, hB⟩ := hrel
    have HB := Lib.hid hB
    clear hB
    by_cases hkn : k < n
    · have hkx : k < xs.length := by rw [HN.out]; exact hkn
      obtain ⟨b, o, rfl⟩ := HA.out.addr (by omega)
      have hx := List.getElem?_eq_getElem hkx
      obtain ⟨x, hxx⟩ : ∃ x, x = xs[k] := ⟨_, rfl⟩
      rw [← hxx] at hx
      have hR := Lib.hid ((HA.out.keep HB.out).range En.cs_len hx)
      have hf := HF.out k x hx
      clear hx hxx
      obtain ⟨es, eo, ep, ew, ek⟩ := x
      replace hR := Lib.hid (show wr.rangeAt b (o + k * 5) [.int .i64 es, .int .i64 eo, .int .i64 ep, .int .i64 ew, .int .i64 ek] from hR.out)
      unfold FewE at hf
      simp only at hf
      have k9 : k < 9 := by omega
      have k9' : (k : Int) < 9 := by omega
      have f1 : ¬ es < 0 := by omega
      have f2 : ¬ 10000000 < es := by omega
      have f3 : ¬ eo < 0 := by omega
      have f4 : ¬ 10000000 < eo := by omega
      have f5 : ¬ ep < -10000000 := by omega
      have f6 : ¬ 10000000 < ep := by omega
      have f7 : ¬ ew < 0 := by omega
      have f8 : ¬ 10000000 < ew := by omega
      have f9 : ¬ ek < 0 := by omega
      have f10 : ¬ 10000000 < ek := by omega
      have X6 := Lib.hid ((Has.new wr 46 #[.int .i64 0, .int .i64 0, .int .i64 0, .int .i64 0, .int .i64 0]).setRow #[.int .i64 es, .int .i64 eo, .int .i64 ep, .int .i64 ew, .int .i64 ek])
      have B6 := Lib.hid (rowB (newB (Below.refl wr.heap.size wr) (.cells #[.int .i64 0, .int .i64 0, .int .i64 0, .int .i64 0, .int .i64 0] 46)) (Nat.le_refl _) #[.int .i64 es, .int .i64 eo, .int .i64 ep, .int .i64 ew, .int .i64 ek])
      have hf11 := hf.2.2.2.2.2.2.2.2.2.2
      clear hf
      by_cases hk0 : 0 < k
      · have g1 : (0 : Int) < (k : Int) := by omega
        have g2 : ¬ ep < 0 := by have := hf11 hk0; omega
        clear hf11
        go_wp2_with (first
          | (refine wpList_load_mid rfl 46 _ rfl b (o + k * 5) rfl _ _ hR.out Tryz.underlying46 rfl (by kernel_rfl) ?_)
          | (refine wpList_store_all rfl 46 _ _ rfl wr.heap.size rfl _ rfl 46 _ (Has.new wr 46 _) (by kernel_rfl) rfl (by simp [Value.oneCell']) ?_; have cx := X6.out.cell; have BB := Lib.hid (nextB HB.out B6.out); generalize (wr.alloc (.cells #[.int .i64 0, .int .i64 0, .int .i64 0, .int .i64 0, .int .i64 0] 46)).setRow wr.heap.size #[.int .i64 es, .int .i64 eo, .int .i64 ep, .int .i64 ew, .int .i64 ek] = w6 at *))
        go_roundw
        case rel => exact ⟨k + 1, by omega, by go_num, BB.out⟩
        case measure => first | (simp [intOf]; done) | (simp [intOf]; omega)
      · have g1 : ¬ (0 : Int) < (k : Int) := by omega
        clear hf11
        go_wp2_with (first
          | (refine wpList_load_mid rfl 46 _ rfl b (o + k * 5) rfl _ _ hR.out Tryz.underlying46 rfl (by kernel_rfl) ?_)
          | (refine wpList_store_all rfl 46 _ _ rfl wr.heap.size rfl _ rfl 46 _ (Has.new wr 46 _) (by kernel_rfl) rfl (by simp [Value.oneCell']) ?_; have cx := X6.out.cell; have BB := Lib.hid (nextB HB.out B6.out); generalize (wr.alloc (.cells #[.int .i64 0, .int .i64 0, .int .i64 0, .int .i64 0, .int .i64 0] 46)).setRow wr.heap.size #[.int .i64 es, .int .i64 eo, .int .i64 ep, .int .i64 ew, .int .i64 ek] = w6 at *))
        go_roundw
        case rel => exact ⟨k + 1, by omega, by go_num, BB.out⟩
        case measure => first | (simp [intOf]; done) | (simp [intOf]; omega)
    · have hke : k = n := by omega
      subst hke
      have k9' : (k : Int) ≤ 9 := by omega
      go_wp2
      exact bodyPost_ret (results_tmp rfl _ _ _) rfl ⟨rfl, HB.out⟩
/-- What the settlement and the claims say of one person. -/
theorem Seas.keptAt {ps : List Pe} {ls : List La} (h : Seas ps ls) {k : Nat} (hk : k < ps.length) : ∃ x e c, ps[k]? = some x ∧ (endsF ps ls)[k]? = some e ∧ (totL ps ls)[k]? = some c ∧ e.s = c / denF ps ls ∧ 0 ≤ c ∧ c ≤ 1000000 * denF ps ls ∧ e.o + e.w + e.k = x.d ∧ (0 < k → e.o + e.p = e.s) ∧ FewE k e ∧ 0 ≤ x.d ∧ x.d ≤ 100000 := by
  obtain ⟨x, hx, h1, h2, h3, h4, h5, h6, h7, h8, h9, h10⟩ := h.endFacts hk
  have he := endsG (ls := ls) hk
  have hp := h.pe x (List.mem_of_getElem? hx)
  have ht := h.totPool hk
  have hn := h.netB
  have hd := h.den
  have hm : sumI (ls.map netI) * denF ps ls ≤ 1000000 * denF ps ls := Int.mul_le_mul_of_nonneg_right (by omega) (by omega)
  refine ⟨x, _, totF ps ls k, hx, he, by simp [totL, hk], ?_, ht.1, by omega, ?_, ?_, h.few' he, hp.2.2.1, h10⟩
  · split
    · exact h1
    · exact h1
  · split
    · exact h3
    · exact h3
  · intro hk0
    rw [if_neg (by omega), h2, h1]
end Go.Proofs
namespace Go.Proofs
open Go.RowKit Go.Shelf
attribute [local go_sem ↓] Go.wp_at_zero Go.wp_at_succ

/-- What the house has so far, besides its own box. -/
def houseC (sh0 pd : Int) (k : Nat) : Array Value := if k = 0 then #[.int .i64 0, .int .i64 0, .int .i64 0, .int .i64 0, .int .i64 0] else #[.int .i64 sh0, .int .i64 0, .int .i64 pd, .int .i64 0, .int .i64 0]
theorem range_take_sum (f : Nat → Int) (k : Nat) : sumI ((List.range (k + 1)).map f) = sumI ((List.range k).map f) + f k := by
  rw [List.range_succ, List.map_append, sumI_append]; simp [sumI]
theorem Seas.shareSum {ps : List Pe} {ls : List La} (h : Seas ps ls) (k : Nat) (hk : k ≤ 6) : 0 ≤ sumI ((List.range k).map (shareF ps ls)) ∧ sumI ((List.range k).map (shareF ps ls)) ≤ 1000000000000000 := by
  have hb : ∀ x ∈ (List.range k).map (shareF ps ls), 0 ≤ x ∧ x ≤ 600000 * 191102976 := fun x hx => by
    obtain ⟨j, _, rfl⟩ := List.mem_map.1 hx
    exact h.share j
  have h1 := sumI_bd _ (600000 * 191102976) (fun x hx => by have := hb x hx; omega)
  have h2 := sumI_nonneg _ (fun x hx => (hb x hx).1)
  have hl : ((List.range k).map (shareF ps ls)).length ≤ 6 := by simp; omega
  omega
theorem Seas.defTake {ps : List Pe} {ls : List La} (h : Seas ps ls) (j : Nat) : 0 ≤ sumI ((ls.take j).map defI) ∧ sumI ((ls.take j).map defI) ≤ 600000 := by
  have hb : ∀ x ∈ (ls.take j).map defI, 0 ≤ x ∧ x ≤ 100000 := fun x hx => by
    obtain ⟨l, hl, rfl⟩ := List.mem_map.1 hx
    have hb := h.la l (List.mem_of_mem_take hl)
    unfold defI; omega
  have h1 := sumI_bd _ 100000 (fun x hx => by have := hb x hx; omega)
  have h2 := sumI_nonneg _ (fun x hx => (hb x hx).1)
  have hl : ((ls.take j).map defI).length ≤ 6 := by have := h.few; simp; omega
  omega
theorem Seas.endsF_eq {ps : List Pe} {ls : List La} (h : Seas ps ls) : ∃ x r, endsFrom ps ls = x :: r ∧ endsF ps ls = ⟨shareF ps ls 0, 0, shareF ps ls 0 + moreF ps ls, 0, 0⟩ :: r := by
  have hl := ends_len ps ls
  have h2 := h.two
  have h0 : (endsFrom ps ls)[0]? = some (endF 1 (shareF ps ls 0) 0) := by
    obtain ⟨z, r, hps, h5, h6⟩ := h.house
    have hx : ps[0]? = some z := by rw [hps]; rfl
    rw [ends_get hx, h5, h6]
  have hs := (h.share 0).1
  cases hE : endsFrom ps ls with
  | nil => rw [hE] at hl; simp at hl; omega
  | cons x r =>
    rw [hE] at h0
    simp at h0
    refine ⟨x, r, rfl, ?_⟩
    unfold endsF
    rw [hE, h0]
    have hm : min (shareF ps ls 0) 0 = 0 := by omega
    simp [addHouse, endF, hm]
/-- The first of a list of ends is put anew. -/
theorem Own.setHead {g n cap B : Nat} {x : En} {r : List En} {w : World} (h : Own eE B (.slice (some ⟨g, 0, none⟩) n cap) (x :: r) w) : ∃ cur, Has w g 46 cur ∧ 0 + 5 ≤ cur.size ∧ ∀ y : En, Own eE B (.slice (some ⟨g, 0, none⟩) n cap) (y :: r) (w.setRow g (over cur 0 y.cs.toArray)) := by
  rcases h.2 with ⟨h1, _⟩ | ⟨g', cap', cur, e1, e2, e3, e4, e5, e6, e7⟩
  · cases h1
  · cases e1
    have hf : (flat En.cs (x :: r)).length = (x :: r).length * 5 := flat_len En.cs_len _
    have hsz : (x :: r).length * 5 ≤ cur.size := by
      have := congrArg List.length e7
      rw [List.length_take] at this
      have hq : (flat eE.f (x :: r)).length = (x :: r).length * 5 := hf
      rw [hq] at this
      simp only [Array.length_toList] at this
      have hz : eE.sz = 5 := rfl
      rw [hz] at this
      omega
    have h5 : 0 + 5 ≤ cur.size := by simp only [List.length_cons] at hsz; omega
    refine ⟨cur, e3, h5, fun y => ⟨by rw [flat_len eE_ok.len], .inr ⟨g, cap, over cur 0 y.cs.toArray, rfl, e2, ?_, e4, e5, ?_, ?_⟩⟩⟩
    · exact Has.setRow (t := 46) (cs := cur) e3 _
    · rw [over_size _ _ _ (by simpa [En.cs] using h5)]; exact e6
    · have hfl : flat eE.f (y :: r) = y.cs ++ flat En.cs r := rfl
      have hfx : flat eE.f (x :: r) = x.cs ++ flat En.cs r := rfl
      rw [hfl]
      rw [hfx] at e7
      unfold over
      simp only [List.take_zero, List.nil_append, Nat.zero_add]
      have hz : eE.sz = 5 := rfl
      have hcs : y.cs.toArray.size = 5 := rfl
      have hlen : (x :: r).length * eE.sz = 5 + r.length * 5 := by rw [hz, List.length_cons]; omega
      have hlen2 : (y :: r).length * eE.sz = 5 + r.length * 5 := by rw [hz, List.length_cons]; omega
      rw [hcs, hlen2, List.take_append]
      rw [hlen] at e7
      have hy5 : y.cs.length = 5 := rfl
      rw [hy5, List.take_of_length_le (by rw [hy5]; omega)]
      congr 1
      have := congrArg (List.drop 5) e7
      rw [List.drop_take, List.drop_append_of_le_length (Nat.le_refl 5)] at this
      rw [show 5 + r.length * 5 - 5 = r.length * 5 by omega] at this ⊢
      rw [this, show x.cs.drop 5 = [] from rfl, List.nil_append]
set_option maxHeartbeats 8000000 in
set_option maxRecDepth 20000 in
theorem refSettle_c (s : Sv) (hs : Seas s.ps s.ls) (w : World) (hi : s.In w) :
    Calls Tryz.prog 32 #[s.val] w fun e w' => ∃ v, e = .returned (.tuple #[v, .int .i64 (boxF s.ps s.ls)]) ∧ Own eE w.heap.size v (endsF s.ps s.ls) w' ∧ Below w.heap.size w w' := by
  have hp6 : s.pn ≤ 6 := by rw [← hi.ps.1]; exact hs.six
  have hp2 : 2 ≤ s.pn := by rw [← hi.ps.1]; exact hs.two
  have hl6 : s.ln ≤ 6 := by rw [← hi.ls.1]; exact hs.few
  have HPo := Lib.hid fun (W : World) (hb : Below w.heap.size w W) => refPool_c s hs W (hi.keep hb)
  have HSh := Lib.hid fun (k : Nat) (hk : k < s.pn) (W : World) (hb : Below w.heap.size w W) => refShare_c s hs k hk W (hi.keep hb)
  have HSe := Lib.hid hs
  obtain ⟨pA, lA, pn, pc, ln, lc, ps, ls⟩ := s
  obtain ⟨hp, hl⟩ := hi
  simp only [Sv.val] at *
  have HP := Lib.hid hp; have HPN := Lib.hid hp.1; have HL := Lib.hid hl; have HLN := Lib.hid hl.1
  have F0 := Lib.hid (Has.new w 25 #[.slice pA pn pc, .slice lA ln lc])
  have B0 := Lib.hid (newB (Below.refl w.heap.size w) (.cells #[.slice pA pn pc, .slice lA ln lc] 25))
  clear hp hl hs
  go_enter Tryz.func32, Tryz.ntmps32
  go_wp2_with (first
    | (refine wpList_load_row rfl 25 _ rfl w.heap.size rfl 25 _ (0, 0) _ F0.out Tryz.underlying25 rfl (by kernel_rfl) ?_)
    | (go_at_call 55; refine (HPo.out _ B0.out).mono ?_; rintro e w2 ⟨rfl, hb⟩; have B2 := Lib.hid (nextB B0.out hb); have F2 := Lib.hid (F0.out.after hb); clear hb))
  have HP2 := Lib.hid (HP.out.keep B2.out); have HL2 := Lib.hid (HL.out.keep B2.out)
  obtain ⟨N, hN⟩ : ∃ N, N = sumI (ls.map netI) := ⟨_, rfl⟩
  have hnb := HSe.out.netTake ls.length
  rw [List.take_of_length_le (Nat.le_refl _), ← hN] at hnb
  rw [← hN]
  have HNq := Lib.hid hN
  clear hN
  have W0 := Lib.hid (Has.new w2 46 #[.int .i64 0, .int .i64 0, .int .i64 0, .int .i64 0, .int .i64 0])
  have WB := Lib.hid (newB (Below.refl w2.heap.size w2) (.cells #[.int .i64 0, .int .i64 0, .int .i64 0, .int .i64 0, .int .i64 0] 46))
  have hz0 : (w2.alloc (.cells #[.int .i64 0, .int .i64 0, .int .i64 0, .int .i64 0, .int .i64 0] 46)).heap.size = w2.heap.size + 1 := by simp
  have hlt0 : w.heap.size < w2.heap.size := F2.out.lt
  generalize w2.alloc (.cells #[.int .i64 0, .int .i64 0, .int .i64 0, .int .i64 0, .int .i64 0] 46) = w3 at *
  go_loopw [4, 5, 7] (fun b v i wr => ∃ k : Nat, k ≤ pn ∧ i = .int .i64 k ∧ b = .int .i64 (N - sumI ((List.range k).map (shareF ps ls))) ∧ Own eE (w2.heap.size + 1) v ((endsFrom ps ls).take k) wr ∧ Below w2.heap.size w2 wr
    ∧ Has wr w2.heap.size 46 (houseC (shareF ps ls 0) (shareF ps ls 0 + sumI (((endsFrom ps ls).map En.o).take k)) k)) (fun _ _ i _ => pn - (intOf i).toNat)
  case atStart => exact ⟨0, by omega, rfl, by simp [sumI], by simpa using Own.nil eE (w2.heap.size + 1) w3, WB.out, W0.out⟩
  case round =>
    obtain ⟨k, hk, rfl, rfl, hO, hB, hH⟩ := hrel
    have HB := Lib.hid hB; have HO := Lib.hid hO; have HH := Lib.hid hH
    have F3 := Lib.hid (F2.out.after hB)
    have cf := F3.out.cell
    have hzr : w2.heap.size + 1 ≤ wr.heap.size := by have := hH.lt; omega
    clear hB hO hH
    by_cases hkn : k < pn
    · have hkl : k < ps.length := by rw [HPN.out]; exact hkn
      have hx := List.getElem?_eq_getElem hkl
      obtain ⟨x, hxx⟩ : ∃ x, x = ps[k] := ⟨_, rfl⟩
      rw [← hxx] at hx
      have hpe := HSe.out.pe x (List.mem_of_getElem? hx)
      have HTk := Lib.hid (ends_take (ls := ls) hx)
      have HTo := Lib.hid (show sumI (((endsFrom ps ls).map En.o).take (k + 1)) = sumI (((endsFrom ps ls).map En.o).take k) + (endF x.f (shareF ps ls k) x.d).o by
        rw [← List.map_take, ends_take hx, List.map_append, List.map_take]; exact sumI_snoc _ _)
      have HLn := Lib.hid (show ((endsFrom ps ls).take k).length ≤ 20000000 by simp [endsFrom]; omega)
      have hof := HSe.out.offs k
      have hof2 := HSe.out.offs (k + 1)
      have hsb := HSe.out.share k
      have hss := HSe.out.shareSum k (by omega)
      have hss2 := HSe.out.shareSum (k + 1) (by omega)
      have HRs := Lib.hid (range_take_sum (shareF ps ls) k)
      rw [HRs.out] at hss2
      rw [HTo.out] at hof2
      obtain ⟨bb, o, he⟩ := HP.out.addr (by omega)
      subst he
      have HR := Lib.hid fun (W : World) (hb : Below wr.heap.size wr W) => ((((HP2.out.keep HB.out).keep hb).range Pe.cs_len hx : W.rangeAt bb (o + k * 3) x.cs))
      obtain ⟨p, d, f⟩ := x
      simp only at hpe HTk HTo hof2
      replace HR := Lib.hid (show ∀ (W : World), Below wr.heap.size wr W → W.rangeAt bb (o + k * 3) [.int .i64 p, .int .i64 d, .int .i64 f] from HR.out)
      have HCs := Lib.hid (HSh.out k hkn wr (nextB B2.out HB.out))
      have HEn := Lib.hid fun (W : World) => refEnd_c p d f (shareF ps ls k) (by omega) (by omega) (by omega) W
      have HE0 := Lib.hid (show k = 0 → (endF f (shareF ps ls k) d).o = 0 ∧ shareF ps ls k = shareF ps ls 0 from fun hk0 => by
        subst hk0
        obtain ⟨z, r, hps, h5, h6⟩ := HSe.out.house
        rw [hps] at hx
        simp at hx
        subst hx
        simp only at h5 h6
        subst h5; subst h6
        exact ⟨by simp [endF]; omega, rfl⟩)
      clear hx hxx hpe
      generalize endF f (shareF ps ls k) d = E at *
      obtain ⟨es, eo, ep, ew, ek⟩ := E
      simp only [En.v] at HEn
      simp only at HTo hof2 HE0
      have HO0 := Lib.hid (show k = 0 → sumI (((endsFrom ps ls).map En.o).take k) = 0 from fun h => by rw [h]; rfl)
      generalize (endsFrom ps ls).take k = L at *
      generalize sumI (((endsFrom ps ls).map En.o).take k) = O at *
      generalize sumI ((List.range k).map (shareF ps ls)) = S at *
      have HS0 := Lib.hid (HSe.out.share 0)
      obtain ⟨sh0, hsh0⟩ : ∃ t, t = shareF ps ls 0 := ⟨_, rfl⟩
      rw [← hsh0] at HE0 HH HS0
      have HQ0 := Lib.hid hsh0
      clear hsh0
      obtain ⟨shk, hshk⟩ : ∃ t, t = shareF ps ls k := ⟨_, rfl⟩
      rw [← hshk] at HE0 HCs HEn hsb hss2 HRs
      clear hshk
      have HOB := Lib.hid fun (g : Nat) (hg : u5.ownBlock = some g) => (World.ownsRow.lt HO.out g hg)
      have e1 : wrap64 (N - S - shk) = N - S - shk := w64 (by omega) (by omega)
      obtain ⟨cur, hcur⟩ : ∃ cur, cur = houseC sh0 (sh0 + O) k := ⟨_, rfl⟩
      rw [← hcur] at HH
      have HCur := Lib.hid hcur
      clear hcur
      have e2 : wrap64 shk = shk := w64 (by omega) (by omega)
      have e3 : wrap64 (sh0 + O + eo) = sh0 + O + eo := w64 (by have := HS0.out; omega) (by have := HS0.out; omega)
      by_cases hk0 : k = 0
      · have e0 : ((k : Int) == 0) = true := by simp [hk0]
        have hcu := HCur.out
        simp only [houseC, hk0, if_true] at hcu
        subst hcu
        have HK0 := Lib.hid hk0
        clear hk0
        go_wp2_with (first
          | (refine wpList_load_row rfl 25 _ rfl w.heap.size rfl 25 _ (0, 0) _ F3.out Tryz.underlying25 rfl (by kernel_rfl) ?_)
          | (go_at_call 90; refine (HCs.out).mono ?_; rintro e w4 ⟨rfl, hb⟩; have B34 := Lib.hid hb; have c4 := (F3.out.after hb).cell; clear hb)
          | (refine wpList_load_mid rfl 49 _ rfl bb (o + k * 3) rfl _ _ (HR.out w4 B34.out) Tryz.underlying49 rfl (by kernel_rfl) ?_)
          | (go_at_call 91; refine (HEn.out _).mono ?_; rintro e w5 ⟨rfl, hb⟩; have B35 := Lib.hid (nextB B34.out hb); clear hb)
          | (refine wpList_store_all rfl 46 _ _ rfl w5.heap.size rfl _ rfl 46 _ (Has.new w5 46 _) (by kernel_rfl) rfl (by simp [Value.oneCell']) ?_; have X6 := Lib.hid ((Has.new w5 46 #[.int .i64 0, .int .i64 0, .int .i64 0, .int .i64 0, .int .i64 0]).setRow #[.int .i64 es, .int .i64 eo, .int .i64 ep, .int .i64 ew, .int .i64 ek]); have B36 := Lib.hid (nextB B35.out (rowB (newB (Below.refl _ _) (.cells #[.int .i64 0, .int .i64 0, .int .i64 0, .int .i64 0, .int .i64 0] 46)) (Nat.le_refl _) #[.int .i64 es, .int .i64 eo, .int .i64 ep, .int .i64 ew, .int .i64 ek])); have z6 : ((w5.alloc (.cells #[.int .i64 0, .int .i64 0, .int .i64 0, .int .i64 0, .int .i64 0] 46)).setRow w5.heap.size #[.int .i64 es, .int .i64 eo, .int .i64 ep, .int .i64 ew, .int .i64 ek]).heap.size = w5.heap.size + 1 := (by simp); generalize ((w5.alloc (.cells #[.int .i64 0, .int .i64 0, .int .i64 0, .int .i64 0, .int .i64 0] 46)).setRow w5.heap.size #[.int .i64 es, .int .i64 eo, .int .i64 ep, .int .i64 ew, .int .i64 ek]) = w6 at *)
          | (refine wpList_load_row rfl 46 _ rfl w5.heap.size rfl 46 _ (0, 0) _ X6.out Tryz.underlying46 rfl (by kernel_rfl) ?_)
          | (at_builtin; refine Hold.out ?_))
        refine ⟨?_⟩
        refine El.app1F eE_ok rfl _ _ rfl (w2.heap.size + 1) u5 L rfl ((HO.out.keep B36.out).alloc (.cells #[.int .i64 es, .int .i64 eo, .int .i64 ep, .int .i64 ew, .int .i64 ek] 46)) HLn.out (w5.heap.size + 1) ⟨es, eo, ep, ew, ek⟩ rfl (Has.new' w6 46 _ z6) (Nat.le_trans hzr (newB B36.out _).size) ?_
        intro v8 w8 ho8 hb8 hg8 hv8
        have O8 := Lib.hid ho8
        have H8 := Lib.hid (show Has w8 w2.heap.size 46 #[.int .i64 0, .int .i64 0, .int .i64 0, .int .i64 0, .int .i64 0] from (hb8.block w2.heap.size (by omega)).trans ((HH.out.after B36.out).alloc (.cells #[.int .i64 es, .int .i64 eo, .int .i64 ep, .int .i64 ew, .int .i64 ek] 46)))
        have X8 := Lib.hid (show Has w8 w5.heap.size 46 #[.int .i64 es, .int .i64 eo, .int .i64 ep, .int .i64 ew, .int .i64 ek] from (hg8.block w5.heap.size (by simp; omega) (fun e1 => by have h1 := HOB.out w5.heap.size (by first | exact e1 | exact e1.symm); have h2 := B35.out.size; omega)).trans (X6.out.alloc (.cells #[.int .i64 es, .int .i64 eo, .int .i64 ep, .int .i64 ew, .int .i64 ek] 46)))
        have B8 := Lib.hid (nextB HB.out (newB B36.out (.cells #[.int .i64 es, .int .i64 eo, .int .i64 ep, .int .i64 ew, .int .i64 ek] 46)) |>.trans (hb8.mono (by omega)))
        have cg := H8.out.cell
        have fg := H8.out.frozen
        have cx := X8.out.cell
        have z8 := H8.out.lt
        clear ho8 hg8
        go_wp2
        have hne : v8.ownBlock ≠ some w2.heap.size := fun e => by have := (World.ownsRow.lt O8.out _ e).1; omega
        go_roundw
        case rel => exact ⟨k + 1, by omega, by go_num, by rw [HRs.out, ← Int.sub_sub], by rw [HTk.out]; exact (O8.out.setOther hne _).setOther hne _, setB (setB B8.out (Nat.le_refl _) _) (Nat.le_refl _) _, ((H8.out.set 0 _).set 2 _).eq (by rw [← HQ0.out, HTo.out, (HE0.out HK0.out).1, (HE0.out HK0.out).2, HO0.out HK0.out]; simp [houseC])⟩
        case measure => first | (simp [intOf]; done) | (simp [intOf]; omega)
      · have e0 : ((k : Int) == 0) = false := by simp; omega
        have hcu := HCur.out
        simp only [houseC, hk0, if_false] at hcu
        subst hcu
        go_wp2_with (first
          | (refine wpList_load_row rfl 25 _ rfl w.heap.size rfl 25 _ (0, 0) _ F3.out Tryz.underlying25 rfl (by kernel_rfl) ?_)
          | (go_at_call 90; refine (HCs.out).mono ?_; rintro e w4 ⟨rfl, hb⟩; have B34 := Lib.hid hb; have c4 := (F3.out.after hb).cell; clear hb)
          | (refine wpList_load_mid rfl 49 _ rfl bb (o + k * 3) rfl _ _ (HR.out w4 B34.out) Tryz.underlying49 rfl (by kernel_rfl) ?_)
          | (go_at_call 91; refine (HEn.out _).mono ?_; rintro e w5 ⟨rfl, hb⟩; have B35 := Lib.hid (nextB B34.out hb); clear hb)
          | (refine wpList_store_all rfl 46 _ _ rfl w5.heap.size rfl _ rfl 46 _ (Has.new w5 46 _) (by kernel_rfl) rfl (by simp [Value.oneCell']) ?_; have X6 := Lib.hid ((Has.new w5 46 #[.int .i64 0, .int .i64 0, .int .i64 0, .int .i64 0, .int .i64 0]).setRow #[.int .i64 es, .int .i64 eo, .int .i64 ep, .int .i64 ew, .int .i64 ek]); have B36 := Lib.hid (nextB B35.out (rowB (newB (Below.refl _ _) (.cells #[.int .i64 0, .int .i64 0, .int .i64 0, .int .i64 0, .int .i64 0] 46)) (Nat.le_refl _) #[.int .i64 es, .int .i64 eo, .int .i64 ep, .int .i64 ew, .int .i64 ek])); have z6 : ((w5.alloc (.cells #[.int .i64 0, .int .i64 0, .int .i64 0, .int .i64 0, .int .i64 0] 46)).setRow w5.heap.size #[.int .i64 es, .int .i64 eo, .int .i64 ep, .int .i64 ew, .int .i64 ek]).heap.size = w5.heap.size + 1 := (by simp); generalize ((w5.alloc (.cells #[.int .i64 0, .int .i64 0, .int .i64 0, .int .i64 0, .int .i64 0] 46)).setRow w5.heap.size #[.int .i64 es, .int .i64 eo, .int .i64 ep, .int .i64 ew, .int .i64 ek]) = w6 at *)
          | (refine wpList_load_row rfl 46 _ rfl w5.heap.size rfl 46 _ (0, 0) _ X6.out Tryz.underlying46 rfl (by kernel_rfl) ?_)
          | (at_builtin; refine Hold.out ?_))
        refine ⟨?_⟩
        refine El.app1F eE_ok rfl _ _ rfl (w2.heap.size + 1) u5 L rfl ((HO.out.keep B36.out).alloc (.cells #[.int .i64 es, .int .i64 eo, .int .i64 ep, .int .i64 ew, .int .i64 ek] 46)) HLn.out (w5.heap.size + 1) ⟨es, eo, ep, ew, ek⟩ rfl (Has.new' w6 46 _ z6) (Nat.le_trans hzr (newB B36.out _).size) ?_
        intro v8 w8 ho8 hb8 hg8 hv8
        have O8 := Lib.hid ho8
        have H8 := Lib.hid (show Has w8 w2.heap.size 46 #[.int .i64 sh0, .int .i64 0, .int .i64 (sh0 + O), .int .i64 0, .int .i64 0] from (hb8.block w2.heap.size (by omega)).trans ((HH.out.after B36.out).alloc (.cells #[.int .i64 es, .int .i64 eo, .int .i64 ep, .int .i64 ew, .int .i64 ek] 46)))
        have X8 := Lib.hid (show Has w8 w5.heap.size 46 #[.int .i64 es, .int .i64 eo, .int .i64 ep, .int .i64 ew, .int .i64 ek] from (hg8.block w5.heap.size (by simp; omega) (fun e1 => by have h1 := HOB.out w5.heap.size (by first | exact e1 | exact e1.symm); have h2 := B35.out.size; omega)).trans (X6.out.alloc (.cells #[.int .i64 es, .int .i64 eo, .int .i64 ep, .int .i64 ew, .int .i64 ek] 46)))
        have B8 := Lib.hid (nextB HB.out (newB B36.out (.cells #[.int .i64 es, .int .i64 eo, .int .i64 ep, .int .i64 ew, .int .i64 ek] 46)) |>.trans (hb8.mono (by omega)))
        have cg := H8.out.cell
        have fg := H8.out.frozen
        have cx := X8.out.cell
        have z8 := H8.out.lt
        clear ho8 hg8
        go_wp2
        have hne : v8.ownBlock ≠ some w2.heap.size := fun e => by have := (World.ownsRow.lt O8.out _ e).1; omega
        go_roundw
        case rel => exact ⟨k + 1, by omega, by go_num, by rw [HRs.out, ← Int.sub_sub], by rw [HTk.out]; exact (O8.out.setOther hne _), (setB B8.out (Nat.le_refl _) _), ((H8.out.set 2 _)).eq (by rw [← HQ0.out, HTo.out]; simp [houseC, Int.add_assoc])⟩
        case measure => first | (simp [intOf]; done) | (simp [intOf]; omega)
    · have hke : k = pn := by omega
      subst hke
      have HE := Lib.hid (show (endsFrom ps ls).take k = endsFrom ps ls from List.take_of_length_le (by rw [ends_len, HPN.out]; exact Nat.le_refl _))
      have HEo := Lib.hid (show ((endsFrom ps ls).map En.o).take k = (endsFrom ps ls).map En.o from List.take_of_length_le (by rw [List.length_map, ends_len, HPN.out]; exact Nat.le_refl _))
      rw [HE.out] at HO
      rw [HEo.out] at HH
      have hob := HSe.out.offs ps.length
      rw [List.take_of_length_le (by rw [List.length_map, ends_len]; exact Nat.le_refl _)] at hob
      have hs0 := HSe.out.share 0
      have hnk : ¬ k = 0 := by omega
      have HBx := Lib.hid (show boxF ps ls = N - sumI ((List.range k).map (shareF ps ls)) by unfold boxF; rw [← HNq.out, HPN.out])
      have HMo := Lib.hid (show moreF ps ls = sumI ((endsFrom ps ls).map En.o) - sumI (ls.map defI) from rfl)
      have HEq := Lib.hid HSe.out.endsF_eq
      simp only [houseC, hnk, if_false] at HH
      rw [← HBx.out]
      obtain ⟨Bx, hBx⟩ : ∃ t, t = boxF ps ls := ⟨_, rfl⟩
      rw [← hBx]
      have HBq := Lib.hid hBx
      clear hBx
      generalize shareF ps ls 0 = sh0 at *
      generalize sumI ((endsFrom ps ls).map En.o) = O at *
      have HBa := Lib.hid HB.out
      have hza := HB.out.size
      generalize wr = wa at *
      go_wp2
      go_loopw [10] (fun i wr => ∃ j : Nat, j ≤ ln ∧ i = .int .i64 j ∧ Own eE (w2.heap.size + 1) u5 (endsFrom ps ls) wr ∧ Below w2.heap.size w2 wr ∧ Has wr w2.heap.size 46 #[.int .i64 sh0, .int .i64 0, .int .i64 (sh0 + O - sumI ((ls.take j).map defI)), .int .i64 0, .int .i64 0]) (fun i _ => ln - (intOf i).toNat)
      case atStart => exact ⟨0, by omega, rfl, HO.out, HB.out, by simpa [sumI] using HH.out⟩
      case round =>
        obtain ⟨j, hj, rfl, hOj, hBj, hHj⟩ := hrel
        have HBj := Lib.hid hBj; have HOj := Lib.hid hOj; have HHj := Lib.hid hHj
        have FJ := Lib.hid (F2.out.after hBj)
        have cfj := FJ.out.cell
        have hzj := hHj.lt
        clear hBj hOj hHj
        by_cases hjn : j < ln
        · have hjl : j < ls.length := by rw [HLN.out]; exact hjn
          have hy := List.getElem?_eq_getElem hjl
          obtain ⟨y, hyy⟩ : ∃ y, y = ls[j] := ⟨_, rfl⟩
          rw [← hyy] at hy
          have hla := HSe.out.la y (List.mem_of_getElem? hy)
          have HT := Lib.hid (net_take defI hy)
          have hd1 := HSe.out.defTake j
          have hd2 := HSe.out.defTake (j + 1)
          rw [HT.out] at hd2
          obtain ⟨lb, lo, he⟩ := HL.out.addr (by omega)
          subst he
          have HR := Lib.hid fun (W : World) (hb : Below wr.heap.size wr W) => (((HL2.out.keep HBj.out).keep hb).range La.cs_len hy : W.rangeAt lb (lo + j * 3) y.cs)
          obtain ⟨g, c, m⟩ := y
          simp only at hla
          replace HR := Lib.hid (show ∀ (W : World), Below wr.heap.size wr W → W.rangeAt lb (lo + j * 3) [.int .i64 g, .int .i64 c, .int .i64 m] from HR.out)
          have HDe := Lib.hid fun (W : World) => refDeficit_c g c m (by omega) (by omega) W
          clear hy hyy
          generalize defI ⟨g, c, m⟩ = dd at *
          generalize sumI ((ls.take j).map defI) = S at *
          have e1 : wrap64 (sh0 + O - S - dd) = sh0 + O - S - dd := w64 (by omega) (by omega)
          go_wp2
          apply wp_loose 9 [.v _, .v _, .v _, .v _, .v _, .v _, .v _, .v _, .v _] (by kernel_rfl) (by kernel_rfl) (by kernel_rfl) (by decide) rfl
          intro K hK
          apply OblS.val rfl
          · intro w' hb _; go_simp; rfl
          apply OblS.val rfl
          · intro w' hb _; have := (HHj.out.after hb).cell; go_simp; rfl
          apply OblS.val rfl
          · intro w' hb _; go_simp; rfl
          apply OblS.val rfl
          · intro w' hb _; have := (FJ.out.after hb).cell; go_simp; rfl
          apply OblS.val rfl
          · intro w' hb _; go_simp; rfl
          apply OblS.val rfl
          · intro w' hb _; go_simp; rfl
          refine OblS.mid rfl 44 _ rfl lb (lo + j * 3) rfl [.int .i64 g, .int .i64 c, .int .i64 m] _ (fun W hb => HR.out W hb) Tryz.underlying44 rfl (by kernel_rfl) ?_
          apply OblS.call 92 rfl
          · intro w' hb _; apply Exists.intro; apply And.intro; (go_simp; rfl); exact HDe.out w'
          apply OblS.val rfl
          · intro w' hb _; go_simp; rfl
          apply OblS.nil
          apply hK
          intro w4 hb hH
          clear hH hK K
          simp only [Act.put, List.setIfInBounds_toArray, List.set_cons_zero, List.set_cons_succ, List.drop_succ_cons, List.drop_zero]
          have HB4 := Lib.hid (nextB HBj.out hb); have HH4 := Lib.hid (HHj.out.after hb); have HO4 := Lib.hid (HOj.out.keep hb)
          have cq := HH4.out.cell; have fq := HH4.out.frozen; have zq := HH4.out.lt
          clear hb
          have hne : u5.ownBlock ≠ some w2.heap.size := fun e => by have := (World.ownsRow.lt HO4.out _ e).1; omega
          go_wp2
          go_roundw
          case rel => exact ⟨j + 1, by omega, by go_num, HO4.out.setOther hne _, setB HB4.out (Nat.le_refl _) _, (HH4.out.set 2 _).eq (by rw [HT.out]; simp [Int.sub_sub])⟩
          case measure => first | (simp [intOf]; done) | (simp [intOf]; omega)
        · have hje : j = ln := by omega
          subst hje
          have HLe := Lib.hid (show ls.take j = ls from List.take_of_length_le (by rw [HLN.out]; exact Nat.le_refl _))
          rw [HLe.out] at HHj
          obtain ⟨x, r, hE1, hE2⟩ := HEq.out
          rw [hE1] at HOj
          have hl2 : (x :: r).length = k := by rw [← hE1, ends_len, HPN.out]
          obtain ⟨A, c, rfl, _, _⟩ := HOj.out.sl
          obtain ⟨gg, rfl⟩ := HOj.out.addr (by rw [hl2]; omega)
          rw [hl2] at HOj
          obtain ⟨cur, hcu, hsz, hset⟩ := HOj.out.setHead
          have HCu := Lib.hid hcu; have HST := Lib.hid hset
          have hgb := (World.ownsRow.lt HOj.out gg rfl)
          rw [hl2]
          have HE2 := Lib.hid hE2
          clear hcu hset hE1 hE2
          go_wp2_with (first
            | (refine wpList_load_row rfl 46 _ rfl w2.heap.size rfl 46 _ (0, 0) _ HHj.out Tryz.underlying46 rfl (by kernel_rfl) ?_)
            | (refine wpList_store_part rfl 46 _ _ rfl gg 0 rfl #[.int .i64 sh0, .int .i64 0, .int .i64 (sh0 + O - sumI (ls.map defI)), .int .i64 0, .int .i64 0] rfl 46 _ HCu.out (by kernel_rfl) (by simpa using hsz) (by simp [Value.oneCell']) ?_))
          exact bodyPost_ret (results_tmp2 rfl _ _ _) rfl ⟨_, by rw [← HBq.out]; rfl, by
            rw [HE2.out, HMo.out]
            have := HST.out ⟨sh0, 0, sh0 + O - sumI (ls.map defI), 0, 0⟩
            rw [← Int.add_sub_assoc]
            exact this.lower (by omega), rowB (nextB B2.out HBj.out) (by omega) _⟩
end Go.Proofs
