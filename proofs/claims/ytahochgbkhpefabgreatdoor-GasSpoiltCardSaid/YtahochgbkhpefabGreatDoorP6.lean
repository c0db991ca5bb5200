/-
  Contracts of Moment and Chamber hold at every table, man and dive of moderate size.
-/
import Derived.Test.YtahochgbkhpefabGreatDoorP2
import Derived.Test.YtahochgbkhpefabGreatDoorP5
namespace Go.Proofs
open Go.RowKit
section
variable {P : Program} {ops : Array Oper}

/-- What is known ahead of the value of an operation: the value; or what it is to the world. -/
inductive Spec where
  | v (x : Value)
  | p (x : Value)
  | r (R : Value → World → Prop)
def Spec.fix : Spec → Option Value
  | .v x => some x
  | .p x => some x
  | .r _ => none
def Spec.holds (s : Spec) (x : Value) (w : World) : Prop := match s with | .v y => x = y | .p y => x = y | .r R => R x w
def Spec.stable (s : Spec) : Prop := match s with | .v _ => True | .p _ => True | .r R => ∀ v w w', R v w → Below w.heap.size w w' → R v w'
theorem Spec.holds_fix {s : Spec} {x y : Value} {w : World} (h : s.fix = some x) (hy : s.holds y w) : y = x := by
  cases s <;> simp only [Spec.fix, Option.some.injEq] at h <;> first | (subst h; exact hy) | cases h
theorem Spec.keep {s : Spec} (h : s.stable) {x : Value} {w w' : World} (hx : s.holds x w) (hb : Below w.heap.size w w') : s.holds x w' := by
  cases s with
  | v y => exact hx
  | p y => exact hx
  | r R => exact h x w w' hx hb

def MkS (P : Program) (ops : Array Oper) (s : Spec) (o : Oper) (a : Act) (w : World) : Prop :=
  (Region.wanted o (yielded ops a.tmps) = true ∧ o.wp P a w (fun a' w' => ∃ v, a' = a.put o.dst v ∧ s.holds v w' ∧ Below w.heap.size w w') (fun _ _ _ => False)) ∨
  (Region.wanted o (yielded ops a.tmps) = false ∧ s.holds undef w)

theorem MkS.wpOp {w : World} {i : Nat} {o : Oper} {s : Spec} {a b : Act} (hi : ops[i]? = some o) (hs : a.tmps.size = b.tmps.size)
    (he : execOp b.eval o = execOp a.eval o) (hw : Region.wanted o (yielded ops b.tmps) = Region.wanted o (yielded ops a.tmps)) (h : MkS P ops s o a w)
    {K : Act → World → Prop} {Q : Exit → Act → World → Prop} (hK : ∀ v w', s.holds v w' → Below w.heap.size w w' → K (b.put o.dst v) w') : Go.wpOp P ops Q i K b w := by
  unfold Go.wpOp
  simp only [hi]
  rcases h with ⟨h1, h3⟩ | ⟨h1, h2⟩
  · rw [hw, if_pos h1]
    left
    unfold Oper.wp at h3 ⊢
    rw [he]
    have fin : ∀ u w', (∃ v, a.put o.dst u = a.put o.dst v ∧ s.holds v w' ∧ Below w.heap.size w w') → K (b.put o.dst u) w' := fun u w' ⟨v, e1, e2, e3⟩ => by
      rw [Act.put_same hs e1]; exact hK v w' e2 e3
    generalize (execOp a.eval o).run P w = r at h3 ⊢
    cases r with
    | ok n w' =>
      cases n <;> simp only [Oper.upon] at h3 ⊢ <;> first | exact h3.elim | skip
      case value u => exact fin _ _ h3
      case skip => exact fin _ _ h3
      case enter f args =>
        refine Calls.mono h3 (fun e w'' h4 => ?_)
        cases e with
        | returned u => exact fin _ _ h4
        | panicked c => exact h4.elim
        | outgrown => obtain ⟨_, _, h5⟩ := h4; exact h5.elim
      case defer d =>
        exfalso
        obtain ⟨v, e0, _⟩ := h3
        have := congrArg Act.defers e0
        have e1 : ∀ (x : Act) (d : Option Tmp) (u : Value), (x.put d u).defers = x.defers := by intro x d u; cases d <;> rfl
        rw [e1, e1] at this
        exact absurd (congrArg List.length this) (by simp)
      case row row args =>
        refine Rows.mono h3 (fun u w'' h4 => ?_)
        exact fin _ _ h4
    | halt x w' => cases x <;> simp only [Oper.upon] at h3 <;> exact h3.elim
  · rw [hw, if_neg (by rw [h1]; decide)]
    exact hK _ _ h2 (Below.refl _ _)

theorem free_anyS {m : Nat} (hF : freeB ops m none = true) (hT : tailB ops m = true) {Q : Exit → Act → World → Prop} {a : Act} {w0 : World} (sp : Nat → Spec) (hst : ∀ i, i < m → (sp i).stable)
    (hN : ∀ i o, i < m → ops[i]? = some o → ∀ vs w, (∀ j x, (sp j).fix = some x → vs j = x) → Below w0.heap.size w0 w → (∀ j, j < i → waits o j = true → (sp j).holds (vs j) w) → MkS P ops (sp i) o (canon ops vs (fun j => decide (j < i)) a m) w)
    (hK : ∀ vs w, (∀ j x, (sp j).fix = some x → vs j = x) → Below w0.heap.size w0 w → (∀ j, j < m → (sp j).holds (vs j) w) → wpList P ops Q (ops.toList.drop m) (canon ops vs (fun _ => true) a m) w) (hms : m ≤ ops.size) :
    ∀ (f : Nat) (listed : Array Bool) (vs : Nat → Value) (w : World), HeadInv .any ops m listed → (List.range m).countP (fun j => !selOf listed j) + (ops.size - m) ≤ f → (∀ j x, (sp j).fix = some x → vs j = x) →
      Below w0.heap.size w0 w → (∀ j, j < m → selOf listed j = true → (sp j).holds (vs j) w) → wpAny P .any ops Q f listed (canon ops vs (selOf listed) a m) w := by
  intro f
  induction f with
  | zero =>
    intro listed vs w inv hf hfx hB hq
    have hall : ∀ j, j < m → selOf listed j = true := fun j hj => by
      have h0 : (List.range m).countP (fun j => !selOf listed j) = 0 := by omega
      have := List.countP_eq_zero.1 h0 j (List.mem_range.2 hj)
      simpa using this
    rw [canon_congr (vs' := vs) (sel' := fun _ => true) m (fun j hj => ⟨hall j hj, fun _ => rfl⟩)]
    exact tail_any hF hT 0 m listed _ w (Nat.le_refl _) hms (by omega) ⟨inv.size, hall, inv.tail⟩ (hK vs w hfx hB (fun j hj => hq j hj (hall j hj)))
  | succ f ih =>
    intro listed vs w inv hf hfx hB hq
    by_cases hall : ∀ j, j < m → selOf listed j = true
    · rw [canon_congr (vs' := vs) (sel' := fun _ => true) m (fun j hj => ⟨hall j hj, fun _ => rfl⟩)]
      exact tail_any hF hT (f + 1) m listed _ w (Nat.le_refl _) hms (by omega) ⟨inv.size, hall, inv.tail⟩ (hK vs w hfx hB (fun j hj => hq j hj (hall j hj)))
    · have hex : ∃ j, j < m ∧ selOf listed j = false ∧ ∀ k, k < j → selOf listed k = true := by
        have h1 : ∃ j, j < m ∧ selOf listed j = false := by
          refine Classical.byContradiction fun hno => hall fun j hj => ?_
          cases hs : selOf listed j with
          | true => rfl
          | false => exact absurd ⟨j, hj, hs⟩ hno
        obtain ⟨j, hj⟩ := h1
        induction j using Nat.strongRecOn with
        | _ j ihj =>
          by_cases hk : ∀ k, k < j → selOf listed k = true
          · exact ⟨j, hj.1, hj.2, hk⟩
          · have : ∃ k, k < j ∧ selOf listed k = false := by
              refine Classical.byContradiction fun hno => hk fun k hk' => ?_
              cases hs : selOf listed k with
              | true => rfl
              | false => exact absurd ⟨k, hk', hs⟩ hno
            obtain ⟨k, hk1, hk2⟩ := this
            exact ihj k hk1 ⟨by omega, hk2⟩
      obtain ⟨j, hjm, hju, hjb⟩ := hex
      obtain ⟨oj, hoj⟩ : ∃ oj, ops[j]? = some oj := ⟨_, Array.getElem?_eq_getElem (by omega)⟩
      have hjr : j ∈ Region.ready .any ops listed := mem_ready.2 ⟨hju, oj, hoj, fun e he hb => by
        have h1 := (freeB_spec hF hoj).back e he hb
        have h2 := hjb e.on h1
        have h3 : e.on < listed.size := by rw [inv.size]; omega
        unfold selOf at h2
        simp [h3] at h2 ⊢; exact h2⟩
      refine ⟨fun h0 => absurd hjr (by rw [h0]; exact List.not_mem_nil), fun i hi => ?_⟩
      obtain ⟨hu, o, ho, hafter⟩ := mem_ready.1 hi
      have hisz : i < ops.size := (Array.getElem?_eq_some_iff.1 ho).1
      have him : i < m := by
        unfold tailB at hT
        simp only [Bool.or_eq_true, decide_eq_true_eq, Bool.and_eq_true] at hT
        rcases hT with hT | ⟨⟨hlt, hs⟩, hc⟩
        · omega
        · exact Nat.lt_of_not_le fun hge => tail_waits hs hc hlt inv _ j rfl hjm hju i hge hi
      have hF' := freeB_spec hF ho
      have hdst : dstOf ops i = o.dst := by simp [dstOf, ho]
      have hdis : ∀ k, k < m → k ≠ i → ∀ d, dstOf ops k = some d → dstOf ops i ≠ some d := fun k hk hne d hd => by
        rw [hdst]; exact (hF'.apart him k hk hne d hd).1
      have hsel' : selOf (listed.setIfInBounds i true) = fun k => selOf listed k || k == i := by
        funext k
        unfold selOf
        by_cases hki : k = i
        · subst hki
          have : k < listed.size := by rw [inv.size]; exact hisz
          simp [this]
        · rw [getD_set_ne true (Ne.symm hki)]
          simp [hki]
      have hcount : (List.range m).countP (fun k => !selOf (listed.setIfInBounds i true) k) < (List.range m).countP (fun k => !selOf listed k) := by
        refine countP_lt (x := i) (List.mem_range.2 him) (fun y hy => ?_) (by simp [selOf, hu]) (by rw [hsel']; simp)
        rw [hsel'] at hy
        simp at hy
        simp [hy.1]
      have hsz : ∀ vs' sel', (canon ops vs' sel' a m).tmps.size = a.tmps.size := fun vs' sel' => (canon_size m).1
      have hev := looks_eval (vs := vs) (vs' := vs) (a := a) hF ho him inv hms hi (fun k _ => rfl)
      have hsame : (fun j => decide (j < i) && (none : Option Nat) != some j) = fun j => decide (j < i) := by funext j; simp
      rw [hsame] at hev
      obtain ⟨he, hw⟩ := getLooks (ops := ops) (o := o) hF'.sel (by rw [hsz, hsz]) hev
      refine (hN i o him ho vs w hfx hB (fun j hj hwt => ?_)).wpOp ho (by rw [hsz, hsz]) he hw (fun v w' hv hb => ?_)
      · obtain ⟨e, he', hb', hon⟩ := waits_spec hwt
        have h5 := hafter e he' hb'
        rw [hon] at h5
        have hjs : j < listed.size := by rw [inv.size]; omega
        refine hq j (by omega) ?_
        unfold selOf
        simp [hjs] at h5 ⊢; exact h5
      · have e1 : canon ops vs (selOf listed) a m = canon ops (fun k => if k = i then v else vs k) (selOf listed) a m :=
          canon_congr m (fun k hk => ⟨rfl, fun hs => by
            have : k ≠ i := fun h' => by subst h'; unfold selOf at hs; rw [hu] at hs; cases hs
            simp [this]⟩)
        have e2 : (canon ops vs (selOf listed) a m).put o.dst v = canon ops (fun k => if k = i then v else vs k) (selOf (listed.setIfInBounds i true)) a m := by
          rw [hsel', canon_put hu m him hdis, e1, hdst]
          simp
        rw [e2]
        refine ih _ _ w' (inv.set hi him) (by omega) (fun k x hk => ?_) (hB.trans (hb.mono hB.size)) (fun k hk hs => ?_)
        · by_cases hki : k = i
          · subst hki; simp only [if_true]; exact Spec.holds_fix hk hv
          · simp only [if_neg hki]; exact hfx k x hk
        · by_cases hki : k = i
          · subst hki; simp only [if_true]; exact hv
          · simp only [if_neg hki]
            have hk2 : selOf listed k = true := by
              rw [hsel'] at hs
              simpa [hki] using hs
            exact Spec.keep (hst k hk) (hq k hk hk2) hb

abbrev Hyps := List (Nat × (World → Prop))
/-- In the order of the text: what each operation leaves. -/
def OblS (P : Program) (ops : Array Oper) (w0 : World) : Nat → List Spec → List Oper → Act → Hyps → (Act → Hyps → Prop) → Prop
  | _, [], [], a, H, K => K a H
  | i, .v x :: S, o :: r, a, H, K => (∀ w, Below w0.heap.size w0 w → (∀ p ∈ H, waits o p.1 = true → p.2 w) → MkS P ops (.v x) o a w) ∧ OblS P ops w0 (i + 1) S r (a.put o.dst x) H K
  | i, .p x :: S, o :: r, a, H, K => (Region.wanted o (yielded ops a.tmps) = true ∧ ∀ w, (execOp a.eval o).run P w = .ok (.value x) w) ∧ OblS P ops w0 (i + 1) S r (a.put o.dst x) H K
  | i, .r R :: S, o :: r, a, H, K => (Spec.r R).stable ∧ (∀ w, Below w0.heap.size w0 w → (∀ p ∈ H, waits o p.1 = true → p.2 w) → MkS P ops (.r R) o a w) ∧ ∀ v, OblS P ops w0 (i + 1) S r (a.put o.dst v) ((i, R v) :: H) K
  | _, _, _, _, _, _ => False

theorem OblS.all {w0 : World} {a0 : Act} {K : Act → Hyps → Prop} (sp : Nat → Spec) (vs : Nat → Value) (hfx : ∀ j x, (sp j).fix = some x → vs j = x) : ∀ (S : List Spec) (l : List Oper) (i : Nat) (H : Hyps), (∀ j s, S[j]? = some s → sp (i + j) = s) → (∀ j o, l[j]? = some o → ops[i + j]? = some o) →
    (∀ p ∈ H, ∃ j R, p = (j, R (vs j)) ∧ j < i ∧ sp j = .r R) → OblS P ops w0 i S l (canon ops vs (fun _ => true) a0 i) H K →
    (∀ j o, i ≤ j → j < i + l.length → ops[j]? = some o → (sp j).stable ∧ ∀ w, Below w0.heap.size w0 w → (∀ k, k < j → waits o k = true → (sp k).holds (vs k) w) → MkS P ops (sp j) o (canon ops vs (fun _ => true) a0 j) w) ∧
    (∀ j o x, i ≤ j → j < i + l.length → ops[j]? = some o → sp j = .p x → Region.wanted o (yielded ops (canon ops vs (fun _ => true) a0 j).tmps) = true ∧ ∀ w, (execOp (canon ops vs (fun _ => true) a0 j).eval o).run P w = .ok (.value x) w) ∧
    ∃ H', (∀ p ∈ H', ∃ j R, p = (j, R (vs j)) ∧ j < i + l.length ∧ sp j = .r R) ∧ K (canon ops vs (fun _ => true) a0 (i + l.length)) H'
  | [], [], i, H, _, _, hH, h => ⟨fun j o h1 h2 => by simp at h2; omega, fun j o x h1 h2 => by simp at h2; omega, H, by simpa using hH, h⟩
  | [], _ :: _, _, _, _, _, _, h => h.elim
  | .v _ :: _, [], _, _, _, _, _, h => h.elim
  | .p _ :: _, [], _, _, _, _, _, h => h.elim
  | .r _ :: _, [], _, _, _, _, _, h => h.elim
  | .v x :: S, o :: r, i, H, hS, hl, hH, h => by
    obtain ⟨h1, h2⟩ := h
    have hi : ops[i]? = some o := by simpa using hl 0 o rfl
    have hd : dstOf ops i = o.dst := by simp [dstOf, hi]
    have hsp : sp i = .v x := by simpa using hS 0 _ rfl
    have e : canon ops vs (fun _ => true) a0 (i + 1) = (canon ops vs (fun _ => true) a0 i).put o.dst x := by simp [canon, hd, hfx i x (by rw [hsp]; rfl)]
    rw [← e] at h2
    obtain ⟨k1, kp, H', k2, k3⟩ := OblS.all sp vs hfx S r (i + 1) H (fun j s hj => by have := hS (j + 1) s (by simpa using hj); rw [show i + 1 + j = i + (j + 1) by omega]; exact this)
      (fun j o' hj => by have := hl (j + 1) o' (by simpa using hj); rw [show i + 1 + j = i + (j + 1) by omega]; exact this) (fun p hp => by obtain ⟨j, R, e1, e2, e3⟩ := hH p hp; exact ⟨j, R, e1, by omega, e3⟩) h2
    refine ⟨fun j o' hj1 hj2 ho' => ?_, fun j o' x' hj1 hj2 ho' hx' => ?_, H', fun p hp => ?_, ?_⟩
    · by_cases hji : j = i
      · subst hji
        have : o' = o := Option.some.inj (ho'.symm.trans hi)
        subst this
        refine ⟨by rw [hsp]; trivial, fun w hB hw => ?_⟩
        rw [hsp]
        refine h1 w hB (fun p hp hwt => ?_)
        obtain ⟨q, R, rfl, e2, e3⟩ := hH p hp
        have := hw q e2 hwt
        rw [e3] at this; exact this
      · exact k1 j o' (by omega) (by simp at hj2; omega) ho'
    · by_cases hji : j = i
      · subst hji; rw [hsp] at hx'; cases hx'
      · exact kp j o' x' (by omega) (by simp at hj2; omega) ho' hx'
    · obtain ⟨j, R, e1, e2, e3⟩ := k2 p hp
      exact ⟨j, R, e1, by simp; omega, e3⟩
    · rw [show i + (o :: r).length = i + 1 + r.length by simp; omega]; exact k3
  | .p x :: S, o :: r, i, H, hS, hl, hH, h => by
    obtain ⟨h1, h2⟩ := h
    have hi : ops[i]? = some o := by simpa using hl 0 o rfl
    have hd : dstOf ops i = o.dst := by simp [dstOf, hi]
    have hsp : sp i = .p x := by simpa using hS 0 _ rfl
    have e : canon ops vs (fun _ => true) a0 (i + 1) = (canon ops vs (fun _ => true) a0 i).put o.dst x := by simp [canon, hd, hfx i x (by rw [hsp]; rfl)]
    rw [← e] at h2
    obtain ⟨k1, kp, H', k2, k3⟩ := OblS.all sp vs hfx S r (i + 1) H (fun j s hj => by have := hS (j + 1) s (by simpa using hj); rw [show i + 1 + j = i + (j + 1) by omega]; exact this)
      (fun j o' hj => by have := hl (j + 1) o' (by simpa using hj); rw [show i + 1 + j = i + (j + 1) by omega]; exact this) (fun p hp => by obtain ⟨j, R, e1, e2, e3⟩ := hH p hp; exact ⟨j, R, e1, by omega, e3⟩) h2
    refine ⟨fun j o' hj1 hj2 ho' => ?_, fun j o' x' hj1 hj2 ho' hx' => ?_, H', fun p hp => ?_, ?_⟩
    · by_cases hji : j = i
      · subst hji
        have : o' = o := Option.some.inj (ho'.symm.trans hi)
        subst this
        refine ⟨by rw [hsp]; trivial, fun w hB hw => ?_⟩
        rw [hsp]
        exact .inl ⟨h1.1, by unfold Oper.wp; rw [h1.2 w]; exact ⟨x, rfl, rfl, Below.refl _ _⟩⟩
      · exact k1 j o' (by omega) (by simp at hj2; omega) ho'
    · by_cases hji : j = i
      · subst hji
        have : o' = o := Option.some.inj (ho'.symm.trans hi)
        subst this
        rw [hsp] at hx'; cases hx'
        exact h1
      · exact kp j o' x' (by omega) (by simp at hj2; omega) ho' hx'
    · obtain ⟨j, R, e1, e2, e3⟩ := k2 p hp
      exact ⟨j, R, e1, by simp; omega, e3⟩
    · rw [show i + (o :: r).length = i + 1 + r.length by simp; omega]; exact k3
  | .r R0 :: S, o :: r, i, H, hS, hl, hH, h => by
    obtain ⟨h0, h1, h2'⟩ := h
    have h2 := h2' (vs i)
    have hi : ops[i]? = some o := by simpa using hl 0 o rfl
    have hd : dstOf ops i = o.dst := by simp [dstOf, hi]
    have hsp : sp i = .r R0 := by simpa using hS 0 _ rfl
    have e : canon ops vs (fun _ => true) a0 (i + 1) = (canon ops vs (fun _ => true) a0 i).put o.dst (vs i) := by simp [canon, hd]
    rw [← e] at h2
    obtain ⟨k1, kp, H', k2, k3⟩ := OblS.all sp vs hfx S r (i + 1) ((i, R0 (vs i)) :: H) (fun j s hj => by have := hS (j + 1) s (by simpa using hj); rw [show i + 1 + j = i + (j + 1) by omega]; exact this)
      (fun j o' hj => by have := hl (j + 1) o' (by simpa using hj); rw [show i + 1 + j = i + (j + 1) by omega]; exact this) (fun p hp => by
        rcases List.mem_cons.1 hp with rfl | hp
        · exact ⟨i, R0, rfl, by omega, hsp⟩
        · obtain ⟨j, R, e1, e2, e3⟩ := hH p hp; exact ⟨j, R, e1, by omega, e3⟩) h2
    refine ⟨fun j o' hj1 hj2 ho' => ?_, fun j o' x' hj1 hj2 ho' hx' => ?_, H', fun p hp => ?_, ?_⟩
    · by_cases hji : j = i
      · subst hji
        have : o' = o := Option.some.inj (ho'.symm.trans hi)
        subst this
        refine ⟨by rw [hsp]; exact h0, fun w hB hw => ?_⟩
        rw [hsp]
        refine h1 w hB (fun p hp hwt => ?_)
        obtain ⟨q, R, rfl, e2, e3⟩ := hH p hp
        have := hw q e2 hwt
        rw [e3] at this; exact this
      · exact k1 j o' (by omega) (by simp at hj2; omega) ho'
    · by_cases hji : j = i
      · subst hji; rw [hsp] at hx'; cases hx'
      · exact kp j o' x' (by omega) (by simp at hj2; omega) ho' hx'
    · obtain ⟨j, R, e1, e2, e3⟩ := k2 p hp
      exact ⟨j, R, e1, by simp; omega, e3⟩
    · rw [show i + (o :: r).length = i + 1 + r.length by simp; omega]; exact k3
end
end Go.Proofs
namespace Go.Proofs
open Go.RowKit
section
variable {P : Program} {l : List Oper} {Q : Exit → Act → World → Prop} {a : Act} {w : World}

theorem any_loose {m : Nat} (S : List Spec) (hF : freeB l.toArray m none = true) (hT : tailB l.toArray m = true) (hms : m ≤ l.length) (hSm : S.length = m)
    (h : OblS P l.toArray w 0 S (l.take m) a [] (fun a' H => ∀ w', Below w.heap.size w w' → (∀ p ∈ H, p.2 w') → wpList P l.toArray Q (l.drop m) a' w')) :
    wpAny P .any l.toArray Q l.toArray.size (Array.replicate l.toArray.size false) a { w with drawn := w.drawn + 1 } := by
  obtain ⟨sp, hsp⟩ : ∃ sp : Nat → Spec, sp = fun j => S.getD j (.v undef) := ⟨_, rfl⟩
  obtain ⟨vs0, hvs0⟩ : ∃ vs0 : Nat → Value, vs0 = fun j => ((sp j).fix).getD undef := ⟨_, rfl⟩
  have hfx0 : ∀ j x, (sp j).fix = some x → vs0 j = x := fun j x hj => by rw [hvs0]; simp only [hj, Option.getD_some]
  have key := fun (vs : Nat → Value) (hfx : ∀ j x, (sp j).fix = some x → vs j = x) => OblS.all (P := P) (ops := l.toArray) (a0 := a) sp vs hfx S (l.take m) 0 [] (fun j s hj => by rw [hsp]; simp [hj])
    (fun j o hj => by
      have hjm : j < m := by have := (List.getElem?_eq_some_iff.1 hj).1; simp at this; omega
      simp only [List.getElem?_take, hjm, if_true] at hj
      simpa using hj) (fun p hp => absurd hp List.not_mem_nil) h
  have hlen : (l.take m).length = m := by simp; omega
  have hcut := fun (vs : Nat → Value) i (hi : i ≤ m) => canon_cut (ops := l.toArray) (vs := vs) (s := fun _ => true) (a := a) m hi
  have e0 : a = canon l.toArray vs0 (selOf (Array.replicate l.toArray.size false)) a m := by
    have e1 : canon l.toArray vs0 (selOf (Array.replicate l.toArray.size false)) a m = canon l.toArray vs0 (fun j => decide (j < 0) && true) a m :=
      canon_congr m (fun j hj => ⟨by simp [selOf, show j < l.length by omega], fun _ => rfl⟩)
    rw [e1, hcut vs0 0 (by omega)]; rfl
  have := free_anyS (P := P) (ops := l.toArray) (m := m) hF hT (Q := Q) (a := a) (w0 := w) sp
    (fun i hi => by
      have ho : ∃ o, l.toArray[i]? = some o := ⟨_, Array.getElem?_eq_getElem (by simp; omega)⟩
      obtain ⟨o, ho⟩ := ho
      exact ((key vs0 hfx0).1 i o (by omega) (by rw [hlen]; omega) ho).1)
    (fun i o hi ho vs w' hfx hB hw => by
      have := ((key vs hfx).1 i o (by omega) (by rw [hlen]; omega) ho).2 w' hB hw
      rw [← hcut vs i (by omega)] at this
      simpa using this)
    (fun vs w' hfx hB hw => by
      obtain ⟨H', k2, k3⟩ := (key vs hfx).2.2
      rw [hlen, Nat.zero_add] at k3
      simpa using k3 w' hB (fun p hp => by
        obtain ⟨j, R, rfl, e2, e3⟩ := k2 p hp
        have := hw j (by rw [hlen] at e2; omega)
        rw [e3] at this; exact this)) (by simpa using hms)
    l.toArray.size (Array.replicate l.toArray.size false) vs0 { w with drawn := w.drawn + 1 } (head0 m)
    (by have := count_le (p := fun j => !selOf (Array.replicate l.toArray.size false) j) m; simp only [List.size_toArray] at *; omega) hfx0 (Below.refl _ w).drew
    (fun j hj hs => by simp [selOf, show j < l.length by omega] at hs)
  rw [← e0] at this
  exact this

/-- The operations before number m in whatever order, each leaving what its word says; the rest behind them. -/
theorem wp_loose {id : Nat} (m : Nat) (S : List Spec) (hm : P.follows .mixedOrders = true) (hF : freeB l.toArray m none = true) (hT : tailB l.toArray m = true) (hms : m ≤ l.length) (hSm : S.length = m)
    (h : ∀ K : Act → Hyps → Prop, (∀ a' H, (∀ w', Below w.heap.size w w' → (∀ p ∈ H, p.2 w') → wpList P l.toArray Q (l.drop m) a' w') → K a' H) → OblS P l.toArray w 0 S (l.take m) a [] K) : (Code.region id l.toArray true).wp P Q a w :=
  wp_region_any hm (any_loose S hF hT hms hSm (h _ fun _ _ h => h))

variable {ops : Array Oper} {w0 : World} {i : Nat} {o : Oper} {r : List Oper} {S : List Spec} {H : Hyps} {K : Act → Hyps → Prop}
theorem OblS.val {v : Value} (hg : Region.wanted o (yielded ops a.tmps) = true)
    (hr : ∀ w, Below w0.heap.size w0 w → (∀ p ∈ H, waits o p.1 = true → p.2 w) → (execOp a.eval o).run P w = .ok (.value v) w) (h : OblS P ops w0 (i + 1) S r (a.put o.dst v) H K) : OblS P ops w0 i (.v v :: S) (o :: r) a H K :=
  ⟨fun w hB hH => .inl ⟨hg, by unfold Oper.wp; rw [hr w hB hH]; exact ⟨v, rfl, rfl, Below.refl _ _⟩⟩, h⟩
theorem OblS.skip (hg : Region.wanted o (yielded ops a.tmps) = false) (h : OblS P ops w0 (i + 1) S r (a.put o.dst undef) H K) : OblS P ops w0 i (.v undef :: S) (o :: r) a H K :=
  ⟨fun _ _ _ => .inr ⟨hg, rfl⟩, h⟩
theorem OblS.call {v : Value} (f : FuncId) (hg : Region.wanted o (yielded ops a.tmps) = true)
    (hr : ∀ w, Below w0.heap.size w0 w → (∀ p ∈ H, waits o p.1 = true → p.2 w) → ∃ args, (execOp a.eval o).run P w = .ok (.enter f args) w ∧ Calls P f args w fun e w' => e = .returned v ∧ Below w.heap.size w w')
    (h : OblS P ops w0 (i + 1) S r (a.put o.dst v) H K) : OblS P ops w0 i (.v v :: S) (o :: r) a H K :=
  ⟨fun w hB hH => .inl ⟨hg, by
    obtain ⟨args, h1, h2⟩ := hr w hB hH
    unfold Oper.wp; rw [h1]
    exact h2.mono fun e w' ⟨he, hb'⟩ => by subst he; exact ⟨v, rfl, rfl, hb'⟩⟩, h⟩
/-- A call whose result is loose. -/
theorem OblS.callR {R : Value → World → Prop} (f : FuncId) (hst : ∀ v w w', R v w → Below w.heap.size w w' → R v w') (hg : Region.wanted o (yielded ops a.tmps) = true)
    (hr : ∀ w, Below w0.heap.size w0 w → (∀ p ∈ H, waits o p.1 = true → p.2 w) → ∃ args, (execOp a.eval o).run P w = .ok (.enter f args) w ∧ Calls P f args w fun e w' => ∃ v, e = .returned v ∧ R v w' ∧ Below w.heap.size w w')
    (h : ∀ v, OblS P ops w0 (i + 1) S r (a.put o.dst v) ((i, R v) :: H) K) : OblS P ops w0 i (.r R :: S) (o :: r) a H K :=
  ⟨hst, fun w hB hH => .inl ⟨hg, by
    obtain ⟨args, h1, h2⟩ := hr w hB hH
    unfold Oper.wp; rw [h1]
    exact h2.mono fun e w' ⟨v, he, hR, hb'⟩ => by subst he; exact ⟨v, rfl, hR, hb'⟩⟩, h⟩
/-- One that makes something. -/
theorem OblS.run {R : Value → World → Prop} (hst : ∀ v w w', R v w → Below w.heap.size w w' → R v w') (hg : Region.wanted o (yielded ops a.tmps) = true)
    (hr : ∀ w, Below w0.heap.size w0 w → (∀ p ∈ H, waits o p.1 = true → p.2 w) → ∃ v w', (execOp a.eval o).run P w = .ok (.value v) w' ∧ R v w' ∧ Below w.heap.size w w')
    (h : ∀ v, OblS P ops w0 (i + 1) S r (a.put o.dst v) ((i, R v) :: H) K) : OblS P ops w0 i (.r R :: S) (o :: r) a H K :=
  ⟨hst, fun w hB hH => .inl ⟨hg, by
    obtain ⟨v, w', h1, h2, h3⟩ := hr w hB hH
    unfold Oper.wp; rw [h1]
    exact ⟨v, rfl, h2, h3⟩⟩, h⟩
theorem OblS.nil (h : K a H) : OblS P ops w0 i [] [] a H K := h
theorem OblS.row (hgd : o.guard = none) (ty : TypeId) (x : Operand) (ho : o.op = .load ty x) (g : Nat) (hx : a.eval x = .pointer (some ⟨g, 0, none⟩)) (t : TypeId) (cs : Array Value) (d : TypeDesc)
    (hh : Has w0 g t cs) (hu : P.underlying ty = some d) (hd : (match d with | .struct _ | .array _ _ => true | _ => false) = true) (hi : (P.info? ty).map (·.size) = some cs.size)
    (h : OblS P ops w0 (i + 1) S r (a.put o.dst (.agg cs)) H K) : OblS P ops w0 i (.v (.agg cs) :: S) (o :: r) a H K := by
  refine ⟨fun w hB hH => .inl ⟨by simp [Region.wanted, hgd], ?_⟩, h⟩
  have hl := run_loadVar_row w g t ty cs (0, 0) d (hh.after hB) hu hd hi
  have hq : (execOp a.eval o).run P w = .ok (.value (.agg cs)) w := by
    unfold execOp
    simp only [ho, hx, Instr.loadAt, Instr.sureAddr, Sem.run_bind, Sem.run_pure, Result.andThen_ok, hl]
  unfold Oper.wp
  rw [hq]
  exact ⟨_, rfl, rfl, Below.refl _ _⟩

/-- What 'alloc' leaves. -/
def NewR (w0 : World) (t : TypeId) (z : Array Value) : Value → World → Prop := fun v w => ∃ B, v = .pointer (some ⟨B, 0, none⟩) ∧ w0.heap.size ≤ B ∧ Has w B t z
theorem NewR.stable {w0 : World} {t : TypeId} {z : Array Value} (v : Value) (w w' : World) (h : NewR w0 t z v w) (hb : Below w.heap.size w w') : NewR w0 t z v w' := by
  obtain ⟨B, h1, h2, h3⟩ := h
  exact ⟨B, h1, h2, h3.after hb⟩
theorem OblS.makes {t : TypeId} {z : Array Value} (hA : Makes P o t z) (h : ∀ v, OblS P ops w0 (i + 1) S r (a.put o.dst v) ((i, NewR w0 t z v) :: H) K) : OblS P ops w0 i (.r (NewR w0 t z) :: S) (o :: r) a H K :=
  OblS.run NewR.stable (by simp [Region.wanted, hA.guard]) (fun w hB _ => ⟨_, _, hA.run a w, ⟨_, rfl, hB.size, Has.new w t z⟩, newB (Below.refl _ _) _⟩) h
end
end Go.Proofs
namespace Go.Proofs
open Go.RowKit
section
variable {P : Program} {ops : Array Oper} {Q : Exit → Act → World → Prop}

theorem put_comm (a : Act) {d1 d2 : Option Tmp} (u v : Value) (h : ∀ d, d1 = some d → d2 ≠ some d) : (a.put d1 u).put d2 v = (a.put d2 v).put d1 u := by
  cases d1 with
  | none => cases d2 <;> rfl
  | some d1 =>
    cases d2 with
    | none => rfl
    | some d2 =>
      have hne : d1 ≠ d2 := fun e => h d1 rfl (by rw [e])
      simp only [Act.put]
      congr 1
      exact Array.setIfInBounds_comm u v hne

theorem upon_only {o : Oper} {a : Act} {K K' : Act → World → Prop} {r : Result Next} (hK : ∀ a w, K a w → K' a w) (h : o.upon P a K (OnlyN Q) r) : o.upon P a K' Q r := by
  cases r with
  | ok n w' =>
    cases n <;> simp only [Oper.upon] at h ⊢ <;> first | exact hK _ _ h | skip
    case enter f args =>
      refine Calls.mono h (fun e w'' h4 => ?_)
      cases e with
      | returned u => exact hK _ _ h4
      | panicked c => exact h4.elim
      | outgrown => exact absurd h4 OnlyN_no
    case row row args => exact Rows.mono h (fun u w'' h4 => hK _ _ h4)
  | halt x w' => cases x <;> simp only [Oper.upon] at h <;> exact h.elim

theorem any_only : ∀ (f : Nat) (listed : Array Bool) (a : Act) (w : World), wpAny P .any ops (OnlyN Q) f listed a w → wpAny P .any ops Q f listed a w
  | 0, _, _, _, h => h
  | f + 1, listed, a, w, h => by
    refine ⟨h.1, fun i hi => ?_⟩
    have h2 := h.2 i hi
    unfold wpOp at h2 ⊢
    cases ho : ops[i]? with
    | none => simp only [ho] at h2 ⊢; exact any_only f _ _ _ h2
    | some o =>
      simp only [ho] at h2 ⊢
      split
      · rename_i hw
        rw [if_pos hw] at h2
        rcases h2 with h2 | ⟨_, h2⟩
        · left
          unfold Oper.wp at h2 ⊢
          exact upon_only (fun a w hh => any_only f _ a w hh) h2
        · exact absurd h2 OnlyN_no
      · rename_i hw
        rw [if_neg hw] at h2
        exact any_only f _ _ _ h2

/-- Does nothing but those that wait for it look at what p leaves, and does nothing that p does not wait for turn what p looks at? -/
def floatB (ops : Array Oper) (p : Nat) : Bool := match ops[p]? with
  | none => false
  | some op => (List.range ops.size).all fun i => i == p || match ops[i]? with
    | none => true
    | some o => (match o.op with | .select .. => false | _ => true) &&
      (match op.dst with | none => true | some d => o.dst != some d && (!(o.looksAt ops).contains d || waits o p)) &&
      (match o.dst with | none => true | some d => !(op.looksAt ops).contains d || waits op i)
structure FloatAt (ops : Array Oper) (p : Nat) (op : Oper) (i : Nat) (o : Oper) : Prop where
  sel : ∀ cs b, o.op ≠ .select cs b
  apart : ∀ d, o.dst = some d → op.dst ≠ some d
  looks : ∀ d, op.dst = some d → d ∈ o.looksAt ops → waits o p = true
  looked : ∀ d, o.dst = some d → d ∈ op.looksAt ops → waits op i = true
theorem floatB_spec {p : Nat} {op : Oper} (h : floatB ops p = true) (hp : ops[p]? = some op) {i : Nat} {o : Oper} (hi : ops[i]? = some o) (hne : i ≠ p) : FloatAt ops p op i o := by
  unfold floatB at h
  simp only [hp] at h
  have hlt : i < ops.size := (Array.getElem?_eq_some_iff.1 hi).1
  have h1 := List.all_eq_true.1 h i (List.mem_range.2 hlt)
  simp only [hi, Bool.or_eq_true, beq_iff_eq, Bool.and_eq_true] at h1
  rcases h1 with h1 | ⟨⟨h1, h2⟩, h3⟩
  · exact absurd h1 hne
  · refine ⟨fun cs b e => by rw [e] at h1; simp at h1, fun d hd e => ?_, fun d hd hm => ?_, fun d hd hm => ?_⟩
    · rw [e] at h2; simp only [Bool.and_eq_true, bne_iff_ne] at h2; exact h2.1 hd
    · rw [hd] at h2; simp only [Bool.and_eq_true, Bool.or_eq_true, Bool.not_eq_true'] at h2
      rcases h2.2 with h5 | h5
      · exact absurd (List.contains_iff_mem.2 hm) (by rw [h5]; decide)
      · exact h5
    · rw [hd] at h3; simp only [Bool.or_eq_true, Bool.not_eq_true'] at h3
      rcases h3 with h5 | h5
      · exact absurd (List.contains_iff_mem.2 hm) (by rw [h5]; decide)
      · exact h5

theorem upon_shift {o : Oper} {a : Act} {dp : Option Tmp} {x : Value} {K K' : Act → World → Prop} {r : Result Next} (hd : ∀ d, o.dst = some d → dp ≠ some d)
    (hK : ∀ a' w, (∃ v, a'.tmps = (a.put o.dst v).tmps) → K (a'.put dp x) w → K' a' w) (h : o.upon P (a.put dp x) K (OnlyN Q) r) : o.upon P a K' Q r := by
  have hd' : ∀ d, dp = some d → o.dst ≠ some d := fun d h1 h2 => hd d h2 h1
  have e1 : ∀ u, (a.put dp x).put o.dst u = (a.put o.dst u).put dp x := fun u => put_comm a x u hd'
  cases r with
  | ok n w' =>
    cases n <;> simp only [Oper.upon] at h ⊢
    case value u => rw [e1] at h; exact hK _ _ ⟨u, rfl⟩ h
    case skip => rw [e1] at h; exact hK _ _ ⟨_, rfl⟩ h
    case defer d =>
      have e2 : ({ (a.put dp x) with defers := d :: (a.put dp x).defers } : Act).put o.dst undef = (({ a with defers := d :: a.defers } : Act).put o.dst undef).put dp x := by
        rw [← put_comm _ x undef hd']
        cases dp <;> rfl
      rw [e2] at h
      exact hK _ _ ⟨undef, by cases o.dst <;> rfl⟩ h
    case enter f args =>
      refine Calls.mono h (fun e w'' h4 => ?_)
      cases e with
      | returned u => simp only at h4 ⊢; rw [e1] at h4; exact hK _ _ ⟨u, rfl⟩ h4
      | panicked c => exact h4.elim
      | outgrown => exact absurd h4 OnlyN_no
    case row row args =>
      refine Rows.mono h (fun u w'' h4 => ?_)
      rw [e1] at h4; exact hK _ _ ⟨u, rfl⟩ h4
  | halt x w' => cases x <;> simp only [Oper.upon] at h <;> exact h.elim

theorem put_tmps_ne {a : Act} {d : Option Tmp} {v : Value} {t : Nat} (h : d ≠ some t) : (a.put d v).tmps[t]? = a.tmps[t]? := by
  cases d with
  | none => rfl
  | some d =>
    have : d ≠ t := fun e => h (by rw [e])
    simp [Act.put, this]
theorem put_size {a : Act} {d : Option Tmp} {v : Value} : (a.put d v).tmps.size = a.tmps.size := by cases d <;> simp [Act.put]

/-- What looks at nothing that others turn may come early. -/
theorem early {p : Nat} {op : Oper} {x : Value} (hp : ops[p]? = some op) (hfl : floatB ops p = true) (hse : ∀ cs b, op.op ≠ .select cs b) :
    ∀ (f : Nat) (listed : Array Bool) (a : Act) (w : World), listed.size = ops.size → p ∈ Region.ready .any ops listed → (Region.wanted op (yielded ops a.tmps) = true ∧ ∀ w, (execOp a.eval op).run P w = .ok (.value x) w) →
      wpAny P .any ops (OnlyN Q) f (listed.setIfInBounds p true) (a.put op.dst x) w → wpAny P .any ops Q (f + 1) listed a w := by
  intro f
  induction f with
  | zero =>
    intro listed a w hs hr hpu h
    refine ⟨fun h0 => absurd hr (by rw [h0]; exact List.not_mem_nil), fun i hi => ?_⟩
    by_cases hip : i = p
    · subst hip
      unfold wpOp
      simp only [hp]
      rw [if_pos hpu.1]
      left
      unfold Oper.wp
      rw [hpu.2 w]
      exact any_only 0 _ _ _ h
    · exfalso
      have : i ∈ Region.ready .any ops (listed.setIfInBounds p true) := by
        obtain ⟨h1, o, h2, h3⟩ := mem_ready.1 hi
        refine mem_ready.2 ⟨by rw [getD_set_ne true (Ne.symm hip)]; exact h1, o, h2, fun e he hb => ?_⟩
        have := h3 e he hb
        by_cases hep : e.on = p
        · rw [hep] at this
          have hu := (mem_ready.1 hr).1
          rw [getD_both hu] at this; cases this
        · rw [getD_set_ne false (Ne.symm hep)]; exact this
      rw [h.1] at this; exact absurd this List.not_mem_nil
  | succ f ih =>
    intro listed a w hs hr hpu h
    have hpl := (mem_ready.1 hr).1
    have hpsz : p < ops.size := (Array.getElem?_eq_some_iff.1 hp).1
    refine ⟨fun h0 => absurd hr (by rw [h0]; exact List.not_mem_nil), fun i hi => ?_⟩
    by_cases hip : i = p
    · subst hip
      unfold wpOp
      simp only [hp]
      rw [if_pos hpu.1]
      left
      unfold Oper.wp
      rw [hpu.2 w]
      exact any_only _ _ _ _ h
    · obtain ⟨h1, o, ho, h3⟩ := mem_ready.1 hi
      have hisz : i < ops.size := (Array.getElem?_eq_some_iff.1 ho).1
      have FA := floatB_spec hfl hp ho hip
      have hnw : waits o p = false := by
        cases hw : waits o p with
        | false => rfl
        | true =>
          obtain ⟨e, he, hb, hon⟩ := waits_spec hw
          have := h3 e he hb
          rw [hon, getD_both hpl] at this; cases this
      have hnw2 : waits op i = false := by
        cases hw : waits op i with
        | false => rfl
        | true =>
          obtain ⟨e, he, hb, hon⟩ := waits_spec hw
          obtain ⟨_, op', hop', hall⟩ := mem_ready.1 hr
          have : op' = op := Option.some.inj (hop'.symm.trans hp)
          subst this
          have := hall e he hb
          rw [hon, getD_both h1] at this; cases this
      have hi2 : i ∈ Region.ready .any ops (listed.setIfInBounds p true) := by
        refine mem_ready.2 ⟨by rw [getD_set_ne true (Ne.symm hip)]; exact h1, o, ho, fun e he hb => ?_⟩
        have := h3 e he hb
        by_cases hep : e.on = p
        · rw [hep, getD_both hpl] at this; cases this
        · rw [getD_set_ne false (Ne.symm hep)]; exact this
      have h2 := h.2 i hi2
      have hlooks : ∀ d ∈ o.looksAt ops, (a.put op.dst x).tmps[d]? = a.tmps[d]? := fun d hd => put_tmps_ne (fun e => by
        have := FA.looks d e hd
        rw [hnw] at this; cases this)
      obtain ⟨he, hw⟩ := getLooks (ops := ops) (o := o) FA.sel put_size hlooks
      unfold wpOp at h2 ⊢
      simp only [ho] at h2 ⊢
      have step : ∀ a' w', (∃ v, a'.tmps = (a.put o.dst v).tmps) → wpAny P .any ops (OnlyN Q) f ((listed.setIfInBounds p true).setIfInBounds i true) (a'.put op.dst x) w' → wpAny P .any ops Q (f + 1) (listed.setIfInBounds i true) a' w' := by
        rintro a' w' ⟨v, ha'⟩ hh
        have hsame : ∀ d ∈ op.looksAt ops, a'.tmps[d]? = a.tmps[d]? := fun d hd => by
          rw [ha']
          exact put_tmps_ne (fun e => by
            have := FA.looked d e hd
            rw [hnw2] at this; cases this)
        obtain ⟨he', hw'⟩ := getLooks (ops := ops) (o := op) hse (by rw [ha', put_size]) hsame
        refine ih (listed.setIfInBounds i true) a' w' (by simp [hs]) ?_ ⟨by rw [hw']; exact hpu.1, fun w => by rw [he']; exact hpu.2 w⟩ ?_
        · obtain ⟨_, op', hop', hall⟩ := mem_ready.1 hr
          refine mem_ready.2 ⟨by rw [getD_set_ne true hip]; exact hpl, op', hop', fun e he hb => ?_⟩
          by_cases hei : e.on = i
          · rw [hei]
            have hil : i < listed.size := by rw [hs]; exact hisz
            simp [hil]
          · rw [getD_set_ne false (Ne.symm hei)]; exact hall e he hb
        · rw [Array.setIfInBounds_comm true true (Ne.symm hip)] at hh; exact hh
      rw [hw] at h2
      split
      · rename_i hww
        rw [if_pos hww] at h2
        rcases h2 with h2 | ⟨_, h2⟩
        · left
          unfold Oper.wp at h2 ⊢
          rw [he] at h2
          exact upon_shift FA.apart step h2
        · exact absurd h2 OnlyN_no
      · rename_i hww
        rw [if_neg hww] at h2
        have e1 : (a.put op.dst x).put o.dst undef = (a.put o.dst undef).put op.dst x := put_comm a x undef (fun d h1 h2 => FA.apart d h2 h1)
        rw [e1] at h2
        exact step _ _ ⟨undef, rfl⟩ h2
end
end Go.Proofs
namespace Go.Proofs
open Go.RowKit
section
variable {P : Program} {ops : Array Oper}
/-- Does number m wait for all before it but p, and each behind it for the one before? -/
def sinkF (ops : Array Oper) (m p : Nat) : Bool := decide (m < ops.size) && Region.chainB .any ops m && (match ops[m]? with | none => false | some o => (List.range m).all fun j => j == p || waits o j)

theorem tail_any2 {m : Nat} {q : Option Nat} (hF : freeB ops m q = true) (hc : Region.chainB .any ops m = true) {Q : Exit → Act → World → Prop} :
    ∀ (f k : Nat) (listed : Array Bool) (a : Act) (w : World), m ≤ k → k ≤ ops.size → ops.size - k ≤ f → ListedTo ops listed k → wpList P ops Q (ops.toList.drop k) a w → wpAny P .any ops Q f listed a w := by
  intro f
  induction f with
  | zero =>
    intro k listed a w hm hk hf hl h
    have hks : k = ops.size := by omega
    subst hks
    refine ⟨List.eq_nil_iff_forall_not_mem.2 fun i hi => ?_, ?_⟩
    · obtain ⟨hu, o, ho, _⟩ := mem_ready.1 hi
      have := hl.yes i (Array.getElem?_eq_some_iff.1 ho).1
      rw [this] at hu; cases hu
    · rw [List.drop_eq_nil_of_le (by simp)] at h; exact h
  | succ f ih =>
    intro k listed a w hm hk hf hl h
    by_cases hks : k = ops.size
    · subst hks
      have hno : Region.ready .any ops listed = [] := List.eq_nil_iff_forall_not_mem.2 fun i hi => by
        obtain ⟨hu, o, ho, _⟩ := mem_ready.1 hi
        have := hl.yes i (Array.getElem?_eq_some_iff.1 ho).1
        rw [this] at hu; cases hu
      refine ⟨fun _ => ?_, by rw [hno]; exact fun _ hx => absurd hx List.not_mem_nil⟩
      rw [List.drop_eq_nil_of_le (by simp)] at h; exact h
    · have hlt : k < ops.size := by omega
      obtain ⟨ok, hok⟩ : ∃ ok, ops[k]? = some ok := ⟨_, Array.getElem?_eq_getElem hlt⟩
      have hkr : k ∈ Region.ready .any ops listed := mem_ready.2 ⟨hl.no k (Nat.le_refl _) hlt, ok, hok, fun e he hb => by
        have := (freeB_spec hF hok).back e he hb
        have h2 := hl.yes e.on this
        have h3 : e.on < listed.size := by rw [hl.size]; omega
        simp [h3] at h2 ⊢; exact h2⟩
      refine ⟨fun h0 => absurd hkr (by rw [h0]; exact List.not_mem_nil), fun i hi => ?_⟩
      have hik : i = k := by
        obtain ⟨hu, o, ho, hall⟩ := mem_ready.1 hi
        have hisz : i < ops.size := (Array.getElem?_eq_some_iff.1 ho).1
        have hge : k ≤ i := by
          refine Nat.le_of_not_lt fun h' => ?_
          rw [hl.yes i h'] at hu; cases hu
        refine Nat.le_antisymm (Nat.le_of_not_lt fun hgt => ?_) hge
        have h1 := List.all_eq_true.1 hc i (List.mem_range.2 hisz)
        simp only [Bool.or_eq_true, decide_eq_true_eq] at h1
        rcases h1 with h1 | h1
        · omega
        · obtain ⟨o', ho', e, he, hb, hon⟩ := Region.waitsFor_spec h1
          have : o' = o := Option.some.inj (ho'.symm.trans ho)
          subst this
          have h2 := hall e he hb
          rw [hon, getD_both (hl.no (i - 1) (by omega) (by omega))] at h2
          cases h2
      subst hik
      have hd : ops.toList.drop i = ok :: ops.toList.drop (i + 1) := by
        rw [List.drop_eq_getElem_cons (by simpa using hlt)]
        congr 1
        simpa [Array.getElem?_eq_getElem hlt] using hok
      rw [hd] at h
      have step : ∀ a w, wpList P ops Q (ops.toList.drop (i + 1)) a w → wpAny P .any ops Q f (listed.setIfInBounds i true) a w := fun a w hh =>
        ih (i + 1) _ a w (by omega) (by omega) (by omega) ⟨by simp [hl.size], fun j hj => by
          by_cases hji : j = i
          · subst hji; simp [hl.size, hlt]
          · rw [getD_set_ne true (Ne.symm hji)]; exact hl.yes j (by omega), fun j hj hjs => by
          rw [getD_set_ne true (by omega)]; exact hl.no j (by omega) hjs⟩ hh
      unfold Go.wpOp
      simp only [hok]
      simp only [wpList] at h
      split
      · rename_i hw
        rw [if_pos hw] at h
        exact h.imp (Oper.wp_mono step) id
      · rename_i hw
        rw [if_neg hw] at h
        exact step _ _ h

theorem free_anyF {m p : Nat} {op : Oper} {x : Value} (hF : freeB ops m none = true) (hT : sinkF ops m p = true) {Q : Exit → Act → World → Prop} {a : Act} {w0 : World} (sp : Nat → Spec) (hst : ∀ i, i < m → (sp i).stable)
    (hN : ∀ i o, i < m → ops[i]? = some o → ∀ vs w, (∀ j x, (sp j).fix = some x → vs j = x) → Below w0.heap.size w0 w → (∀ j, j < i → waits o j = true → (sp j).holds (vs j) w) → MkS P ops (sp i) o (canon ops vs (fun j => decide (j < i)) a m) w)
    (hK : ∀ vs w, (∀ j x, (sp j).fix = some x → vs j = x) → Below w0.heap.size w0 w → (∀ j, j < m → (sp j).holds (vs j) w) → wpList P ops (OnlyN Q) (ops.toList.drop m) (canon ops vs (fun _ => true) a m) w) (hms : m ≤ ops.size) (hpm : p < m) (hp : ops[p]? = some op) (hsp : sp p = .p x) (hfl : floatB ops p = true)
    (hpure : ∀ vs, (∀ j x, (sp j).fix = some x → vs j = x) → Region.wanted op (yielded ops (canon ops vs (fun j => decide (j < p)) a m).tmps) = true ∧ ∀ w, (execOp (canon ops vs (fun j => decide (j < p)) a m).eval op).run P w = .ok (.value x) w) :
    ∀ (f : Nat) (listed : Array Bool) (vs : Nat → Value) (w : World), HeadInv .any ops m listed → (List.range m).countP (fun j => !selOf listed j) + (ops.size - m) ≤ f → (∀ j x, (sp j).fix = some x → vs j = x) →
      Below w0.heap.size w0 w → (∀ j, j < m → selOf listed j = true → (sp j).holds (vs j) w) → wpAny P .any ops Q f listed (canon ops vs (selOf listed) a m) w := by
  obtain ⟨hT2, hT3⟩ : Region.chainB .any ops m = true ∧ ∀ o, ops[m]? = some o → (List.range m).all (fun j => j == p || waits o j) = true := by
    unfold sinkF at hT
    simp only [Bool.and_eq_true] at hT
    obtain ⟨⟨_, h2⟩, h3⟩ := hT
    exact ⟨h2, fun o ho => by rw [ho] at h3; exact h3⟩
  intro f
  induction f with
  | zero =>
    intro listed vs w inv hf hfx hB hq
    have hall : ∀ j, j < m → selOf listed j = true := fun j hj => by
      have h0 : (List.range m).countP (fun j => !selOf listed j) = 0 := by omega
      have := List.countP_eq_zero.1 h0 j (List.mem_range.2 hj)
      simpa using this
    rw [canon_congr (vs' := vs) (sel' := fun _ => true) m (fun j hj => ⟨hall j hj, fun _ => rfl⟩)]
    exact any_only _ _ _ _ <| tail_any2 hF hT2 0 m listed _ w (Nat.le_refl _) hms (by omega) ⟨inv.size, hall, inv.tail⟩ (hK vs w hfx hB (fun j hj => hq j hj (hall j hj)))
  | succ f ih =>
    intro listed vs w inv hf hfx hB hq
    by_cases hall : ∀ j, j < m → j ≠ p → selOf listed j = true
    · have hlist : ∀ (listed' : Array Bool), listed'.size = ops.size → (∀ j, j < m → selOf listed' j = true) → (∀ t, m ≤ t → t < ops.size → listed'.getD t true = false) → ListedTo ops listed' m := fun l' h1 h2 h3 => ⟨h1, h2, h3⟩
      by_cases hpl : selOf listed p = true
      · have hall' : ∀ j, j < m → selOf listed j = true := fun j hj => by
          by_cases hjp : j = p
          · subst hjp; exact hpl
          · exact hall j hj hjp
        rw [canon_congr (vs' := vs) (sel' := fun _ => true) m (fun j hj => ⟨hall' j hj, fun _ => rfl⟩)]
        exact any_only _ _ _ _ <| tail_any2 hF hT2 (f + 1) m listed _ w (Nat.le_refl _) hms (by omega) (hlist _ inv.size hall' inv.tail) (hK vs w hfx hB (fun j hj => hq j hj (hall' j hj)))
      · have hpu : selOf listed p = false := by cases h : selOf listed p <;> simp_all
        have hpr : p ∈ Region.ready .any ops listed := mem_ready.2 ⟨hpu, op, hp, fun e he hb => by
          have h1 := (freeB_spec hF hp).back e he hb
          have h2 := hall e.on (by omega) (by omega)
          have h3 : e.on < listed.size := by rw [inv.size]; omega
          unfold selOf at h2
          simp [h3] at h2 ⊢; exact h2⟩
        have hpsz : p < listed.size := by rw [inv.size]; omega
        have hFp := freeB_spec hF hp
        have hdstp : dstOf ops p = op.dst := by simp [dstOf, hp]
        have hdisp : ∀ k, k < m → k ≠ p → ∀ d, dstOf ops k = some d → dstOf ops p ≠ some d := fun k hk hne d hd => by
          rw [hdstp]; exact (hFp.apart hpm k hk hne d hd).1
        have hselp : selOf (listed.setIfInBounds p true) = fun k => selOf listed k || k == p := by
          funext k
          unfold selOf
          by_cases hki : k = p
          · subst hki; simp [hpsz]
          · rw [getD_set_ne true (Ne.symm hki)]; simp [hki]
        have hev := looks_eval (vs := vs) (vs' := vs) (a := a) hF hp hpm inv hms hpr (fun k _ => rfl)
        have hsame : (fun j => decide (j < p) && (none : Option Nat) != some j) = fun j => decide (j < p) := by funext j; simp
        rw [hsame] at hev
        obtain ⟨he, hw⟩ := getLooks (ops := ops) (o := op) hFp.sel (by rw [(canon_size m).1, (canon_size m).1]) hev
        obtain ⟨hp1, hp2⟩ := hpure vs hfx
        have hvp : vs p = x := hfx p x (by rw [hsp]; rfl)
        refine early hp hfl hFp.sel f listed _ w inv.size hpr ⟨by rw [hw]; exact hp1, fun w => by rw [he]; exact hp2 w⟩ ?_
        have e2 : (canon ops vs (selOf listed) a m).put op.dst x = canon ops vs (fun _ => true) a m := by
          have e3 := canon_put (ops := ops) (vs := vs) (a := a) hpu m hpm hdisp
          rw [hvp, hdstp] at e3
          rw [← e3]
          refine canon_congr m (fun j hj => ⟨?_, fun _ => rfl⟩)
          by_cases hjp : j = p
          · subst hjp; simp
          · simp [hall j hj hjp]
        rw [e2]
        have hcp : 0 < (List.range m).countP (fun j => !selOf listed j) := List.countP_pos_iff.2 ⟨p, List.mem_range.2 hpm, by simp [hpu]⟩
        exact tail_any2 hF hT2 f m _ _ w (Nat.le_refl _) hms (by omega) (hlist _ (by simp [inv.size]) (fun j hj => by
            rw [hselp]
            by_cases hjp : j = p
            · simp [hjp]
            · simp [hall j hj hjp]) (fun t ht1 ht2 => by rw [getD_set_ne true (by omega)]; exact inv.tail t ht1 ht2))
          (hK vs w hfx hB (fun j hj => by
            by_cases hjp : j = p
            · subst hjp; rw [hsp]; exact hvp
            · exact hq j hj (hall j hj hjp)))
    · have hex : ∃ j, j < m ∧ selOf listed j = false ∧ ∀ k, k < j → selOf listed k = true := by
        have h1 : ∃ j, j < m ∧ selOf listed j = false := by
          refine Classical.byContradiction fun hno => hall fun j hj _ => ?_
          cases hs : selOf listed j with
          | true => rfl
          | false => exact absurd ⟨j, hj, hs⟩ hno
        obtain ⟨j, hj⟩ := h1
        induction j using Nat.strongRecOn with
        | _ j ihj =>
          by_cases hk : ∀ k, k < j → selOf listed k = true
          · exact ⟨j, hj.1, hj.2, hk⟩
          · have : ∃ k, k < j ∧ selOf listed k = false := by
              refine Classical.byContradiction fun hno => hk fun k hk' => ?_
              cases hs : selOf listed k with
              | true => rfl
              | false => exact absurd ⟨k, hk', hs⟩ hno
            obtain ⟨k, hk1, hk2⟩ := this
            exact ihj k hk1 ⟨by omega, hk2⟩
      have hex2 : ∃ j, j < m ∧ j ≠ p ∧ selOf listed j = false := by
        refine Classical.byContradiction fun hno => hall fun j hj hjp => ?_
        cases hs : selOf listed j with
        | true => rfl
        | false => exact absurd ⟨j, hj, hjp, hs⟩ hno
      obtain ⟨j2, hj2m, hj2p, hj2u⟩ := hex2
      obtain ⟨j, hjm, hju, hjb⟩ := hex
      obtain ⟨oj, hoj⟩ : ∃ oj, ops[j]? = some oj := ⟨_, Array.getElem?_eq_getElem (by omega)⟩
      have hjr : j ∈ Region.ready .any ops listed := mem_ready.2 ⟨hju, oj, hoj, fun e he hb => by
        have h1 := (freeB_spec hF hoj).back e he hb
        have h2 := hjb e.on h1
        have h3 : e.on < listed.size := by rw [inv.size]; omega
        unfold selOf at h2
        simp [h3] at h2 ⊢; exact h2⟩
      refine ⟨fun h0 => absurd hjr (by rw [h0]; exact List.not_mem_nil), fun i hi => ?_⟩
      obtain ⟨hu, o, ho, hafter⟩ := mem_ready.1 hi
      have hisz : i < ops.size := (Array.getElem?_eq_some_iff.1 ho).1
      have him : i < m := by
        refine Nat.lt_of_not_le fun hge => ?_
        by_cases him : i = m
        · subst him
          have h1 := List.all_eq_true.1 (hT3 o ho) j2 (List.mem_range.2 hj2m)
          simp only [Bool.or_eq_true, beq_iff_eq] at h1
          rcases h1 with h1 | h1
          · exact hj2p h1
          · obtain ⟨e, he, hb, hon⟩ := waits_spec h1
            have := hafter e he hb
            rw [hon, getD_both hj2u] at this; cases this
        · have h1 := List.all_eq_true.1 hT2 i (List.mem_range.2 hisz)
          simp only [Bool.or_eq_true, decide_eq_true_eq] at h1
          rcases h1 with h1 | h1
          · omega
          · obtain ⟨o', ho', e, he, hb, hon⟩ := Region.waitsFor_spec h1
            have : o' = o := Option.some.inj (ho'.symm.trans ho)
            subst this
            have h2 := hafter e he hb
            rw [hon, getD_both (inv.tail (i - 1) (by omega) (by omega))] at h2
            cases h2
      have hF' := freeB_spec hF ho
      have hdst : dstOf ops i = o.dst := by simp [dstOf, ho]
      have hdis : ∀ k, k < m → k ≠ i → ∀ d, dstOf ops k = some d → dstOf ops i ≠ some d := fun k hk hne d hd => by
        rw [hdst]; exact (hF'.apart him k hk hne d hd).1
      have hsel' : selOf (listed.setIfInBounds i true) = fun k => selOf listed k || k == i := by
        funext k
        unfold selOf
        by_cases hki : k = i
        · subst hki
          have : k < listed.size := by rw [inv.size]; exact hisz
          simp [this]
        · rw [getD_set_ne true (Ne.symm hki)]
          simp [hki]
      have hcount : (List.range m).countP (fun k => !selOf (listed.setIfInBounds i true) k) < (List.range m).countP (fun k => !selOf listed k) := by
        refine countP_lt (x := i) (List.mem_range.2 him) (fun y hy => ?_) (by simp [selOf, hu]) (by rw [hsel']; simp)
        rw [hsel'] at hy
        simp at hy
        simp [hy.1]
      have hsz : ∀ vs' sel', (canon ops vs' sel' a m).tmps.size = a.tmps.size := fun vs' sel' => (canon_size m).1
      have hev := looks_eval (vs := vs) (vs' := vs) (a := a) hF ho him inv hms hi (fun k _ => rfl)
      have hsame : (fun j => decide (j < i) && (none : Option Nat) != some j) = fun j => decide (j < i) := by funext j; simp
      rw [hsame] at hev
      obtain ⟨he, hw⟩ := getLooks (ops := ops) (o := o) hF'.sel (by rw [hsz, hsz]) hev
      refine (hN i o him ho vs w hfx hB (fun j hj hwt => ?_)).wpOp ho (by rw [hsz, hsz]) he hw (fun v w' hv hb => ?_)
      · obtain ⟨e, he', hb', hon⟩ := waits_spec hwt
        have h5 := hafter e he' hb'
        rw [hon] at h5
        have hjs : j < listed.size := by rw [inv.size]; omega
        refine hq j (by omega) ?_
        unfold selOf
        simp [hjs] at h5 ⊢; exact h5
      · have e1 : canon ops vs (selOf listed) a m = canon ops (fun k => if k = i then v else vs k) (selOf listed) a m :=
          canon_congr m (fun k hk => ⟨rfl, fun hs => by
            have : k ≠ i := fun h' => by subst h'; unfold selOf at hs; rw [hu] at hs; cases hs
            simp [this]⟩)
        have e2 : (canon ops vs (selOf listed) a m).put o.dst v = canon ops (fun k => if k = i then v else vs k) (selOf (listed.setIfInBounds i true)) a m := by
          rw [hsel', canon_put hu m him hdis, e1, hdst]
          simp
        rw [e2]
        refine ih _ _ w' (inv.set hi him) (by omega) (fun k x hk => ?_) (hB.trans (hb.mono hB.size)) (fun k hk hs => ?_)
        · by_cases hki : k = i
          · subst hki; simp only [if_true]; exact Spec.holds_fix hk hv
          · simp only [if_neg hki]; exact hfx k x hk
        · by_cases hki : k = i
          · subst hki; simp only [if_true]; exact hv
          · simp only [if_neg hki]
            have hk2 : selOf listed k = true := by
              rw [hsel'] at hs
              simpa [hki] using hs
            exact Spec.keep (hst k hk) (hq k hk hk2) hb

end
section
variable {P : Program} {ops : Array Oper} {l : List Oper} {Q : Exit → Act → World → Prop} {a : Act} {w : World}
theorem any_floats {m p : Nat} {op : Oper} {x : Value} (S : List Spec) (hF : freeB l.toArray m none = true) (hT : sinkF l.toArray m p = true) (hms : m ≤ l.length) (hSm : S.length = m) (hpm : p < m) (hp : l[p]? = some op) (hsp : S[p]? = some (.p x)) (hfl : floatB l.toArray p = true)
    (h : OblS P l.toArray w 0 S (l.take m) a [] (fun a' H => ∀ w', Below w.heap.size w w' → (∀ p ∈ H, p.2 w') → wpList P l.toArray (OnlyN Q) (l.drop m) a' w')) :
    wpAny P .any l.toArray Q l.toArray.size (Array.replicate l.toArray.size false) a { w with drawn := w.drawn + 1 } := by
  obtain ⟨sp, hsp0⟩ : ∃ sp : Nat → Spec, sp = fun j => S.getD j (.v undef) := ⟨_, rfl⟩
  have hspe : sp p = .p x := by rw [hsp0]; simp [hsp]
  obtain ⟨vs0, hvs0⟩ : ∃ vs0 : Nat → Value, vs0 = fun j => ((sp j).fix).getD undef := ⟨_, rfl⟩
  have hfx0 : ∀ j x, (sp j).fix = some x → vs0 j = x := fun j x hj => by rw [hvs0]; simp only [hj, Option.getD_some]
  have key := fun (vs : Nat → Value) (hfx : ∀ j x, (sp j).fix = some x → vs j = x) => OblS.all (P := P) (ops := l.toArray) (a0 := a) sp vs hfx S (l.take m) 0 [] (fun j s hj => by rw [hsp0]; simp [hj])
    (fun j o hj => by
      have hjm : j < m := by have := (List.getElem?_eq_some_iff.1 hj).1; simp at this; omega
      simp only [List.getElem?_take, hjm, if_true] at hj
      simpa using hj) (fun p hp => absurd hp List.not_mem_nil) h
  have hlen : (l.take m).length = m := by simp; omega
  have hcut := fun (vs : Nat → Value) i (hi : i ≤ m) => canon_cut (ops := l.toArray) (vs := vs) (s := fun _ => true) (a := a) m hi
  have e0 : a = canon l.toArray vs0 (selOf (Array.replicate l.toArray.size false)) a m := by
    have e1 : canon l.toArray vs0 (selOf (Array.replicate l.toArray.size false)) a m = canon l.toArray vs0 (fun j => decide (j < 0) && true) a m :=
      canon_congr m (fun j hj => ⟨by simp [selOf, show j < l.length by omega], fun _ => rfl⟩)
    rw [e1, hcut vs0 0 (by omega)]; rfl
  have := free_anyF (P := P) (ops := l.toArray) (m := m) (p := p) (op := op) (x := x) hF hT (Q := Q) (a := a) (w0 := w) sp
    (fun i hi => by
      have ho : ∃ o, l.toArray[i]? = some o := ⟨_, Array.getElem?_eq_getElem (by simp; omega)⟩
      obtain ⟨o, ho⟩ := ho
      exact ((key vs0 hfx0).1 i o (by omega) (by rw [hlen]; omega) ho).1)
    (fun i o hi ho vs w' hfx hB hw => by
      have := ((key vs hfx).1 i o (by omega) (by rw [hlen]; omega) ho).2 w' hB hw
      rw [← hcut vs i (by omega)] at this
      simpa using this)
    (fun vs w' hfx hB hw => by
      obtain ⟨H', k2, k3⟩ := (key vs hfx).2.2
      rw [hlen, Nat.zero_add] at k3
      simpa using k3 w' hB (fun p hp => by
        obtain ⟨j, R, rfl, e2, e3⟩ := k2 p hp
        have := hw j (by rw [hlen] at e2; omega)
        rw [e3] at this; exact this)) (by simpa using hms) hpm (by simpa using hp) (hspe) hfl
    (fun vs hfx => by
      have := (key vs hfx).2.1 p op x (by omega) (by rw [hlen]; omega) (by simpa using hp) hspe
      rw [← hcut vs p (by omega)] at this
      simpa using this)
    l.toArray.size (Array.replicate l.toArray.size false) vs0 { w with drawn := w.drawn + 1 } (head0 m)
    (by have := count_le (p := fun j => !selOf (Array.replicate l.toArray.size false) j) m; simp only [List.size_toArray] at *; omega) hfx0 (Below.refl _ w).drew
    (fun j hj hs => by simp [selOf, show j < l.length by omega] at hs)
  rw [← e0] at this
  exact this

/-- As wp_loose; number p may even come behind those from m on. -/
theorem wp_floats {id : Nat} (m p : Nat) {op : Oper} {x : Value} (S : List Spec) (hm : P.follows .mixedOrders = true) (hF : freeB l.toArray m none = true) (hT : sinkF l.toArray m p = true) (hms : m ≤ l.length) (hSm : S.length = m) (hpm : p < m) (hp : l[p]? = some op) (hsp : S[p]? = some (.p x)) (hfl : floatB l.toArray p = true)
    (h : ∀ K : Act → Hyps → Prop, (∀ a' H, (∀ w', Below w.heap.size w w' → (∀ p ∈ H, p.2 w') → wpList P l.toArray (OnlyN Q) (l.drop m) a' w') → K a' H) → OblS P l.toArray w 0 S (l.take m) a [] K) : (Code.region id l.toArray true).wp P Q a w :=
  wp_region_any hm (any_floats S hF hT hms hSm hpm hp hsp hfl (h _ fun _ _ h => h))

variable {w0 : World} {i : Nat} {o : Oper} {r : List Oper} {S : List Spec} {H : Hyps} {K : Act → Hyps → Prop}
theorem OblS.pure {v : Value} (hg : Region.wanted o (yielded ops a.tmps) = true) (hr : ∀ w, (execOp a.eval o).run P w = .ok (.value v) w) (h : OblS P ops w0 (i + 1) S r (a.put o.dst v) H K) : OblS P ops w0 i (.p v :: S) (o :: r) a H K :=
  ⟨⟨hg, hr⟩, h⟩
end
end Go.Proofs
namespace Go.Proofs
open Go.RowKit Go.Shelf Gas
attribute [local go_sem ↓] Go.wp_at_zero Go.wp_at_succ

def momR (t : Tm) (a : FS) (l g d : Int) : Option Pr := stopR t (stayH a.1 (stayS l g d), enterB t.ps t.rs a.1 (stayS l g d).dl a.2)
def Mom1 (w0 : World) (tb : Nat) (o : Option Pr) (e : Ending) (w' : World) : Prop := e = .returned (.bool o.isSome) ∧ (match o with | some s => ∃ w1, Below w0.heap.size w0 w1 ∧ w' = w1.setRow tb #[.int .i64 s.1, .int .i64 s.2] | none => Below w0.heap.size w0 w')

set_option maxHeartbeats 4000000 in
set_option maxRecDepth 50000 in
theorem moment1_c (t : Tm) (hss : SsOk t) (h : Nat → Int → Pr) (ho : FolOk t h) (bm : Nat) (kp : Bool) (fb sb tb : Nat) (l g d : Int) (hs : SOk (stayS l g d)) (w : World) (hi : t.In w) (hm : MapAt w bm (heldF t.rs h))
    (hf : Has w fb 108 (folC t (.map (some bm)) kp)) (hsp : Has w sb 43 #[.int .i64 l, .int .i64 g]) (c0 c1 : Int) (htb : Has w tb 31 #[.int .i64 c0, .int .i64 c1]) :
    Calls Tryz.prog 64 #[.int .i64 d, .pointer (some ⟨fb, 0, none⟩), .pointer (some ⟨sb, 0, none⟩), .pointer (some ⟨tb, 0, none⟩)] w (Mom1 w tb (momR t (h, kp) l g d)) := by
  have HX := Lib.hid fun (w' : World) (hb : Below w.heap.size w w') => stay_c t h ho (stayS l g d) hs bm kp w' (hi.keep hb) (hm.keep hb)
  have HY := Lib.hid fun (w' : World) (hb : Below w.heap.size w w') (b' : Nat) (hm' : MapAt w' b' (heldF t.rs (stayH h (stayS l g d)))) => stop_c t hss _ (ho.stay hs) b' (enterB t.ps t.rs h (stayS l g d).dl kp) w' (hi.keep hb) hm'
  have HF := Lib.hid hf; have HS := Lib.hid hsp; have HT := Lib.hid htb
  clear hi hm ho hf hsp hs hss htb
  replace HY := Lib.hid fun (w' : World) (hb : Below w.heap.size w w') (b' : Nat) (hm' : MapAt w' b' (heldF t.rs (stayH h (stayS l g d)))) => (show Calls Tryz.prog 59 #[FolV t b' (enterB t.ps t.rs h (stayS l g d).dl kp)] w' fun e w'_1 => e = .returned (bestV (momR t (h, kp) l g d)) ∧ Below w'.heap.size w' w'_1 from HY.out w' hb b' hm')
  generalize momR t (h, kp) l g d = mo at *
  generalize enterB t.ps t.rs h (stayS l g d).dl kp = eb at *
  have HD := Lib.hid (Below.refl w.heap.size w).drew
  cases mo
  all_goals
    obtain ⟨pA, sA, rA, pn, pc, sn, sc, rn, rc, ps, ss, rs⟩ := t
    have HFV := Lib.hid (show ∀ b k, FolV ⟨pA, sA, rA, pn, pc, sn, sc, rn, rc, ps, ss, rs⟩ b k = .agg #[.slice pA pn pc, .slice sA sn sc, .slice rA rn rc, .map (some b), .bool k] from fun _ _ => rfl)
    simp only [folC, bestV, stV, Option.getD_none, Option.getD_some, Option.isSome_none, Option.isSome_some] at *
    go_enter Tryz.func64, Tryz.ntmps64
    go_wp2
    apply wp_floats 10 8 [.v _, .v _, .v _, .v _, .r (fun v w' => ∃ b', v = .agg #[.slice pA pn pc, .slice sA sn sc, .slice rA rn rc, .map (some b'), .bool eb] ∧ MapAt w' b' (heldF rs (stayH h (stayS l g d)))), .v _, .v _, .v _, .p _, .r (NewR w 31 #[.int .i64 0, .int .i64 0])] (by kernel_rfl) (by kernel_rfl) (by kernel_rfl) (by decide) rfl (by decide) rfl rfl (by kernel_rfl)
    intro K hK
    refine OblS.row rfl 108 _ rfl fb rfl 108 _ _ HF.out Tryz.underlying108 rfl (by kernel_rfl) ?_
    refine OblS.row rfl 43 _ rfl sb rfl 43 _ _ HS.out Tryz.underlying43 rfl (by kernel_rfl) ?_
    apply OblS.val rfl
    · intro w' hb _; go_simp; rfl
    apply OblS.call 66 rfl
    · intro w' hb _; apply Exists.intro; apply And.intro; (go_simp; rfl); exact staying_c _ _ _ w'
    apply OblS.callR 65
    · rintro v w1 w2 ⟨b', e, hm⟩ hb; exact ⟨b', e, hm.keep hb⟩
    · rfl
    · intro w' hb _
      apply Exists.intro; apply And.intro; (go_simp; rfl); refine (HX.out w' hb).mono ?_
      rintro e w2 ⟨b', rfl, hM, hb2⟩
      exact ⟨_, rfl, ⟨b', rfl, hM⟩, hb2⟩
    intro v4
    apply OblS.call 59 rfl
    · intro w' hb hH
      obtain ⟨b', rfl, hM⟩ := hH _ (List.mem_cons_self ..) (by kernel_rfl)
      apply Exists.intro; apply And.intro; (go_simp; rfl); exact HY.out w' hb b' hM
    apply OblS.val rfl
    · intro w' hb _; go_simp; rfl
    apply OblS.val rfl
    · intro w' hb _; go_simp; rfl
    apply OblS.pure rfl
    · intro w'; go_simp; rfl
    apply OblS.makes ⟨rfl, fun a w => by kernel_rfl⟩
    intro v9
    apply OblS.nil
    apply hK
    intro w2 hb hH
    obtain ⟨B, rfl, hB1, hB2⟩ := hH _ (List.mem_cons_self ..)
    clear hH hK K
    simp only [Act.put, List.setIfInBounds_toArray, List.set_cons_zero, List.set_cons_succ, List.drop_succ_cons, List.drop_zero]
    have HB := Lib.hid hb; have HBw := Lib.hid hB1; have HBx := Lib.hid hB2
    have htl := HT.out.lt
    have HT2 := Lib.hid (HT.out.after hb)
    have HR := Lib.hid fun (cs : Array Value) => hB2.setRow cs
    have HT3 := Lib.hid fun (cs : Array Value) => (HT.out.after hb).setRow_far (show tb ≠ B by omega) cs
    have HB3 := Lib.hid fun (cs : Array Value) => rowB hb hB1 cs
    clear hb hB2
    go_wp2_with (first
      | (refine wpList_store_all rfl 31 _ _ rfl B rfl _ rfl 31 _ HBx.out (by kernel_rfl) rfl (by simp [Value.oneCell']) ?_)
      | (refine wpList_load_row rfl 31 _ rfl B rfl 31 _ (0, 0) _ (HR.out _) Tryz.underlying31 rfl (by kernel_rfl) ?_)
      | (refine wpList_store_all rfl 31 _ _ rfl tb rfl _ rfl 31 _ (HT3.out _) (by kernel_rfl) rfl (by simp [Value.oneCell']) ?_))
    dsimp only [OnlyN, Exit.then]
    go_wp2_with (first
      | (refine wpList_load_row rfl 31 _ rfl B rfl 31 _ (0, 0) _ (HR.out _) Tryz.underlying31 rfl (by kernel_rfl) ?_)
      | (refine wpList_store_all rfl 31 _ _ rfl tb rfl _ rfl 31 _ (HT3.out _) (by kernel_rfl) rfl (by simp [Value.oneCell']) ?_))
    first
      | exact bodyPost_ret (results_tmp rfl _ _ _) rfl ⟨rfl, HB3.out _⟩
      | exact bodyPost_ret (results_tmp rfl _ _ _) rfl ⟨rfl, _, HB3.out _, rfl⟩
end Go.Proofs
namespace Go.Proofs
open Go.RowKit Go.Shelf Gas
attribute [local go_sem ↓] Go.wp_at_zero Go.wp_at_succ

def momP (t : Tm) (a : FS) (l g d : Int) : Bool := (momR t a l g d).isSome
def momC (t : Tm) (a : FS) (l g d : Int) : Pr := if d = 0 then (0, 0) else (momR t a l g (d - 1)).getD (0, 0)
def momF (t : Tm) (dive : List St) (l g : Int) : Int × Pr × Int :=
  if definedB t.ps t.ss t.rs dive 2 && ordB l g 0 40 6 then (latV (lead (momP t (folS t.ps t.rs (h0, true) dive) l g)), momC t (folS t.ps t.rs (h0, true) dive) l g (lead (momP t (folS t.ps t.rs (h0, true) dive) l g)), latE (lead (momP t (folS t.ps t.rs (h0, true) dive) l g))) else (0, (0, 0), 2)
def momE (r : Int × Pr × Int) : Value := .tuple #[.int .i64 r.1, .agg #[.int .i64 r.2.1.1, .int .i64 r.2.1.2], .int .i64 r.2.2]

/-- What the rounds of Moment keep. -/
structure MomI (t : Tm) (a : FS) (l g : Int) (w0 : World) (fb sb tb zb bm : Nat) (d : Int) (W : World) : Prop where
  below : Below w0.heap.size w0 W
  fol : Has W fb 108 (folC t (.map (some bm)) a.2)
  sp : Has W sb 43 #[.int .i64 l, .int .i64 g]
  st : Has W tb 31 #[.int .i64 (momC t a l g d).1, .int .i64 (momC t a l g d).2]
  res : Has W zb 31 #[.int .i64 0, .int .i64 0]
  map : MapAt W bm (heldF t.rs a.1)

theorem moment_round (t : Tm) (hss : SsOk t) (a : FS) (ho : FolOk t a.1) (l g : Int) (hlg : ordB l g 0 40 6 = true) (w0 : World) (hi : t.In w0) (fb sb tb zb bm : Nat) (htb : w0.heap.size ≤ tb) (hne : fb ≠ tb ∧ sb ≠ tb ∧ zb ≠ tb) (d : Int) (h1 : 0 ≤ d) (h2 : d ≤ 40) (W : World) (hI : MomI t a l g w0 fb sb tb zb bm d W) :
    Calls Tryz.prog 64 (#[.int .i64 d] ++ #[.pointer (some ⟨fb, 0, none⟩), .pointer (some ⟨sb, 0, none⟩), .pointer (some ⟨tb, 0, none⟩)]) W fun e W' => e = .returned (.bool (momP t a l g d)) ∧ MomI t a l g w0 fb sb tb zb bm (if momP t a l g d then d + 1 else d) W' := by
  have hc := moment1_c t hss a.1 ho bm a.2 fb sb tb l g d (stayS_ok hlg (by omega)) W (hi.keep hI.below) hI.map hI.fol hI.sp _ _ hI.st
  refine hc.mono fun e W' ⟨e1, e2⟩ => ?_
  have hm : momR t a l g d = momR t (a.1, a.2) l g d := rfl
  unfold momP
  rw [← hm] at e1 e2
  cases hr : momR t a l g d with
  | none =>
    rw [hr] at e1 e2
    exact ⟨e1, nextB hI.below e2, hI.fol.after e2, hI.sp.after e2, hI.st.after e2, hI.res.after e2, hI.map.keep e2⟩
  | some s =>
    rw [hr] at e1 e2
    obtain ⟨w1, hb, rfl⟩ := e2
    have hC : momC t a l g (d + 1) = s := by
      unfold momC
      rw [if_neg (by omega), show d + 1 - 1 = d by omega, hr]; rfl
    refine ⟨e1, rowB (nextB hI.below hb) htb _, (hI.fol.after hb).setRow_far hne.1 _, (hI.sp.after hb).setRow_far hne.2.1 _, ?_, (hI.res.after hb).setRow_far hne.2.2 _, (hI.map.keep hb).setRow ((hI.map.keep hb).ne (hI.st.after hb)) _⟩
    simp only [Option.isSome_some, if_true]
    rw [hC]
    exact (hI.st.after hb).setRow _

set_option maxHeartbeats 4000000 in
theorem Moment_c (t : Tm) (ht : t.Small) (A : Option Addr) (n c : Nat) (dive : List St) (l g : Int) (hn : n ≤ 100000) (w : World) (hi : t.In w) (hd : SlOf St.cs 4 w A n dive) :
    Calls Tryz.prog 20 #[t.tab, t.man, .slice A n c, .agg #[.int .i64 l, .int .i64 g]] w fun e w' => e = .returned (momE (momF t dive l g)) ∧ Below w.heap.size w w' := by
  have HD := Lib.hid fun (w' : World) (hb : Below w.heap.size w w') => defined_c t ht A n c dive 2 (by omega) (by omega) w' (hi.keep hb) (hd.keep hb)
  have HOK := Lib.hid fun h => defined_ok ht hi (dive := dive) (room := 2) h
  have B0 := Lib.hid (newB (newB (newB (newB (Below.refl w.heap.size w) (.cells #[.slice t.pA t.pn t.pc, .slice t.sA t.sn t.sc] 25)) (.cells #[.slice t.rA t.rn t.rc] 28)) (.cells #[.int .i64 l, .int .i64 g] 43)) (.cells #[.int .i64 0, .int .i64 0] 31))
  have T0 := Lib.hid ((((Has.new w 25 #[.slice t.pA t.pn t.pc, .slice t.sA t.sn t.sc]).alloc (.cells #[.slice t.rA t.rn t.rc] 28)).alloc (.cells #[.int .i64 l, .int .i64 g] 43)).alloc (.cells #[.int .i64 0, .int .i64 0] 31))
  have M0 := Lib.hid (((Has.new' (w.alloc (.cells #[.slice t.pA t.pn t.pc, .slice t.sA t.sn t.sc] 25)) 28 #[.slice t.rA t.rn t.rc] (g := w.heap.size + 1) (by simp)).alloc (.cells #[.int .i64 l, .int .i64 g] 43)).alloc (.cells #[.int .i64 0, .int .i64 0] 31))
  have S0 := Lib.hid ((Has.new' ((w.alloc (.cells #[.slice t.pA t.pn t.pc, .slice t.sA t.sn t.sc] 25)).alloc (.cells #[.slice t.rA t.rn t.rc] 28)) 43 #[.int .i64 l, .int .i64 g] (g := w.heap.size + 1 + 1) (by simp)).alloc (.cells #[.int .i64 0, .int .i64 0] 31))
  have Z0 := Lib.hid (Has.new' (((w.alloc (.cells #[.slice t.pA t.pn t.pc, .slice t.sA t.sn t.sc] 25)).alloc (.cells #[.slice t.rA t.rn t.rc] 28)).alloc (.cells #[.int .i64 l, .int .i64 g] 43)) 31 #[.int .i64 0, .int .i64 0] (g := w.heap.size + 1 + 1 + 1) (by simp))
  cases hdb : definedB t.ps t.ss t.rs dive 2
  · have HE := Lib.hid (show momF t dive l g = (0, (0, 0), 2) by simp [momF, hdb])
    rw [hdb] at HD
    rw [HE.out]
    clear hi hd HOK hdb
    obtain ⟨pA, sA, rA, pn, pc, sn, sc, rn, rc, ps, ss, rs⟩ := t
    simp only [Tm.tab, Tm.man] at *
    go_enter Tryz.func20, Tryz.ntmps20
    go_wp2_with (first
      | (go_at_call 56; refine (HD.out _ B0.out).mono ?_; rintro e w1 ⟨rfl, hb1⟩; have HB1 := Lib.hid (nextB B0.out hb1); have Z1 := Lib.hid (Z0.out.after hb1); clear hb1)
      | (refine wpList_store_all rfl 31 _ _ rfl (w.heap.size + 1 + 1 + 1) rfl _ rfl 31 _ Z1.out (by kernel_rfl) rfl (by simp [Value.oneCell']) ?_))
    exact bodyPost_ret (results_tmp_row_tmp Tryz.results20 _ _ (w.heap.size + 1 + 1 + 1) 31 _ (0, 0) _ rfl (Z1.out.setRow _) Tryz.underlying31 rfl (by kernel_rfl)) rfl ⟨rfl, rowB HB1.out (by omega) _⟩
  · rw [hdb] at HD
    cases hlg : ordB l g 0 40 6
    · have HE := Lib.hid (show momF t dive l g = (0, (0, 0), 2) by simp [momF, hlg])
      have HO := Lib.hid hlg
      rw [HE.out]
      clear hi hd HOK hdb hlg
      obtain ⟨pA, sA, rA, pn, pc, sn, sc, rn, rc, ps, ss, rs⟩ := t
      simp only [Tm.tab, Tm.man] at *
      go_enter Tryz.func20, Tryz.ntmps20
      go_wp2_with (first
        | (go_at_call 56; refine (HD.out _ B0.out).mono ?_; rintro e w1 ⟨rfl, hb1⟩; have HB1 := Lib.hid (nextB B0.out hb1); have Z1 := Lib.hid (Z0.out.after hb1); have cs := (S0.out.after hb1).cell; clear hb1)
        | (go_at_call 62; refine (deep_c l g _).mono ?_; rintro e w2 ⟨rfl, hb2⟩; rw [HO.out]; have HB2 := Lib.hid (nextB HB1.out hb2); have Z2 := Lib.hid (Z1.out.after hb2); clear hb2)
        | (refine wpList_store_all rfl 31 _ _ rfl (w.heap.size + 1 + 1 + 1) rfl _ rfl 31 _ Z2.out (by kernel_rfl) rfl (by simp [Value.oneCell']) ?_))
      exact bodyPost_ret (results_tmp_row_tmp Tryz.results20 _ _ (w.heap.size + 1 + 1 + 1) 31 _ (0, 0) _ rfl (Z2.out.setRow _) Tryz.underlying31 rfl (by kernel_rfl)) rfl ⟨rfl, rowB HB2.out (by omega) _⟩
    · have HE := Lib.hid (show momF t dive l g = (latV (lead (momP t (folS t.ps t.rs (h0, true) dive) l g)), momC t (folS t.ps t.rs (h0, true) dive) l g (lead (momP t (folS t.ps t.rs (h0, true) dive) l g)), latE (lead (momP t (folS t.ps t.rs (h0, true) dive) l g))) by simp [momF, hdb, hlg])
      rw [HE.out]
      obtain ⟨hok, hs1, _⟩ := HOK.out hdb
      have hss := defined_ss hdb
      have HO := Lib.hid hlg
      have HBg := Lib.hid fun (w' : World) (hb : Below w.heap.size w w') => begin_c t hok w' (hi.keep hb)
      have HFo := Lib.hid fun (w' : World) (hb : Below w.heap.size w w') (bm : Nat) (hm : MapAt w' bm (heldF t.rs h0)) => follow_c t h0 (h0_ok hok) bm true A n c dive (by omega) hs1 w' (hi.keep hb) hm (hd.keep hb)
      have ho1 := FolOk.folS dive (h0, true) (h0_ok hok) hs1
      obtain ⟨a1, ha1⟩ : ∃ a, a = folS t.ps t.rs (h0, true) dive := ⟨_, rfl⟩
      rw [← ha1] at HFo ho1
      rw [← ha1]
      clear ha1 HE
      have HLa := Lib.hid fun (W : World) (fb sb tb zb bm : Nat) (htb : w.heap.size ≤ tb) (hne : fb ≠ tb ∧ sb ≠ tb ∧ zb ≠ tb) (hI : MomI t a1 l g w fb sb tb zb bm 0 W) =>
        latest_c 64 #[.pointer (some ⟨fb, 0, none⟩), .pointer (some ⟨sb, 0, none⟩), .pointer (some ⟨tb, 0, none⟩)] (enters_of Tryz.func64 (by kernel_rfl) rfl) (momP t a1 l g) (MomI t a1 l g w fb sb tb zb bm)
          (fun d h1 h2 W' hI' => moment_round t hss a1 ho1 l g hlg w hi fb sb tb zb bm htb hne d h1 h2 W' hI') W hI
      have HC0 := Lib.hid (show momC t a1 l g 0 = (0, 0) from rfl)
      generalize lead (momP t a1 l g) = ld at *
      clear hi hd HOK hdb hlg hok hs1 hss ho1
      obtain ⟨h1, k1⟩ := a1
      obtain ⟨pA, sA, rA, pn, pc, sn, sc, rn, rc, ps, ss, rs⟩ := t
      have HFV := Lib.hid (show ∀ b k, FolV ⟨pA, sA, rA, pn, pc, sn, sc, rn, rc, ps, ss, rs⟩ b k = .agg #[.slice pA pn pc, .slice sA sn sc, .slice rA rn rc, .map (some b), .bool k] from fun _ _ => rfl)
      simp only [Tm.tab, Tm.man] at *
      go_enter Tryz.func20, Tryz.ntmps20
      go_wp2_with (first
        | (go_at_call 56; refine (HD.out _ B0.out).mono ?_; rintro e w1 ⟨rfl, hb1⟩; have HB1 := Lib.hid (nextB B0.out hb1); have S1 := Lib.hid (S0.out.after hb1); have cs := S1.out.cell; have T1 := Lib.hid (T0.out.after hb1); have M1 := Lib.hid (M0.out.after hb1); have Z1 := Lib.hid (Z0.out.after hb1); clear hb1)
        | (go_at_call 62; refine (deep_c l g _).mono ?_; rintro e w2 ⟨rfl, hb2⟩; rw [HO.out]; have HB2 := Lib.hid (nextB HB1.out hb2); have S2 := Lib.hid (S1.out.after hb2); have ct := (T1.out.after hb2).cell; have cm := (M1.out.after hb2).cell; have Z2 := Lib.hid (Z1.out.after hb2); clear hb2)
        | (go_at_call 57; refine (HBg.out _ HB2.out).mono ?_; rintro e w3 ⟨bm, rfl, hM, hb3⟩; rw [HFV.out]; have HB3 := Lib.hid (nextB HB2.out hb3); have HM3 := Lib.hid hM; have S3 := Lib.hid (S2.out.after hb3); have Z3 := Lib.hid (Z2.out.after hb3); clear hM hb3)
        | (go_at_call 58; refine (HFo.out _ HB3.out _ HM3.out).mono ?_; rintro e w4 ⟨bm4, rfl, hM, hb4⟩; rw [HFV.out]; have HB4 := Lib.hid (nextB HB3.out hb4); have HM4 := Lib.hid hM; have S4 := Lib.hid (S3.out.after hb4); have Z4 := Lib.hid (Z3.out.after hb4); clear hM hb4)
        | (go_at_call 63; refine (HLa.out _ w4.heap.size (w.heap.size + 1 + 1) (w4.heap.size + 1) (w.heap.size + 1 + 1 + 1) bm4 (by have := HB4.out.size; omega) (by have h1 := S4.out.lt; have h2 := Z4.out.lt; omega) ⟨newB (newB HB4.out _) _, (Has.new w4 108 _).alloc _, (S4.out.alloc _).alloc _, by rw [HC0.out]; exact Has.new' _ 31 _ (by simp), (Z4.out.alloc _).alloc _, (HM4.out.keep (newB (Below.refl _ _) _)).keep (newB (Below.refl _ _) _)⟩).mono ?_; rintro e w5 ⟨rfl, hI⟩; have HI := Lib.hid hI; clear hI))
      generalize w4.heap.size + 1 = tb at *
      have c1 := HI.out.st.cell; have c2 := HI.out.res.cell; have f2 := HI.out.res.frozen
      have HZ := Lib.hid HI.out.res; have HB := Lib.hid HI.out.below
      clear HI
      go_region
      clear c1 c2 f2
      go_wp2
      refine bodyPost_ret (results_tmp_row_tmp Tryz.results20 _ _ (w.heap.size + 1 + 1 + 1) 31 _ (0, 0) _ rfl ((HZ.out.set 0 _).set 1 _).drew Tryz.underlying31 rfl (by kernel_rfl)) rfl ⟨rfl, ?_⟩
      exact (setB (setB HB.out (by show w.heap.size ≤ w.heap.size + 1 + 1 + 1; omega) _) (by show w.heap.size ≤ w.heap.size + 1 + 1 + 1; omega) _).drew
end Go.Proofs
namespace Go.Proofs
open Go.RowKit Go.Shelf Gas
attribute [local go_sem ↓] Go.wp_at_zero Go.wp_at_succ

theorem info3 : ∃ i, Tryz.prog.info? 3 = some i ∧ i.zero = some (.int .i64 0) ∧ i.bytes = 8 ∧ i.size = 1 := by
  have h : (Tryz.prog.info? 3).isSome = true := by kernel_rfl
  exact ⟨(Tryz.prog.info? 3).get h, (Option.some_get _).symm, by kernel_rfl, by kernel_rfl, by kernel_rfl⟩

theorem wpList_app37 {ops : Array Oper} {rest : List Oper} {o : Oper} {a : Act} {w : World} {Q : Exit → Act → World → Prop} (hgd : o.guard = none) (s x : Operand)
    (ho : o.op = .call { callee := .builtin .append, args := #[s, x], argTypes := #[23, 23] })
    (base : Nat) (v : Value) (xs : List Int) (hs : a.eval s = v) (hown : w.ownsRow base 3 1 v xs.length (flat inC xs)) (hlen : xs.length ≤ 1000000)
    (b : Nat) (y : Int) (hx : a.eval x = .slice (some ⟨b, 0, none⟩) 1 1) (hb : Has w b 3 #[.int .i64 y]) (hbase : base ≤ w.heap.size)
    (h : ∀ v' w', w'.ownsRow base 3 1 v' (xs ++ [y]).length (flat inC (xs ++ [y])) → Below base w w' → Spares w w' 3 → wpList Tryz.prog ops Q rest (a.put o.dst v') w') : wpList Tryz.prog ops Q (o :: rest) a w := by
  obtain ⟨i, hi, hz, hby, hsz⟩ := info3
  refine wpList_append_own w hgd s x 23 ho base 3 i _ 1 8 (by kernel_rfl) hi hz hsz hby rfl (by omega) v xs.length _ hs hown ⟨b, 0, none⟩ 1 1 [.int .i64 y] hx rfl ?_ (by simp [Value.oneCell']) (by unfold maxLen; omega) (by omega) hbase
    (fun v' w' e1 e2 _ => h v' w' (by rw [flat_append]; simpa [flat, inC] using e1) (below_grown e2 (fun r hr => (hown.lt r hr).1) hbase) (Spares.of_grown hown e2))
  intro j u hu
  have hadd : (⟨b, 0, none⟩ : Addr).add j = ⟨b, j, none⟩ := by unfold Addr.add; split <;> simp_all
  rw [hadd, hb.cell j]
  simpa using hu

def chL (n : Nat) : List Int := (List.range n).map fun j : Nat => (j : Int) + 1
theorem chL_succ (n : Nat) : chL (n + 1) = chL n ++ [(n : Int) + 1] := by simp [chL, List.range_succ]
theorem chL_len (n : Nat) : (chL n).length = n := by simp [chL]
def IsInts (w0 : World) (xs : List Int) (e : Ending) (w' : World) : Prop := ∃ g cap, e = .returned (.slice (some ⟨g, 0, none⟩) xs.length cap) ∧ RowOf inC 1 w' g 3 xs.length xs ∧ Below w0.heap.size w0 w'

set_option maxHeartbeats 1000000 in
theorem chambers_c (w : World) : Calls Tryz.prog 75 #[] w (IsInts w (chL 40)) := by
  have h0 : w.ownsRow w.heap.size 3 1 (.slice none 0 0) 0 (flat inC []) := World.ownsRow_nil _ _ _ _
  go_enter Tryz.func75, Tryz.ntmps75
  go_wp2
  go_loopw [1, 3] (fun v i wr => ∃ k : Nat, k ≤ 40 ∧ i = .int .i64 k ∧ wr.ownsRow w.heap.size 3 1 v (chL k).length (flat inC (chL k)) ∧ Below w.heap.size w wr) (fun _ i _ => 40 - (intOf i).toNat)
  case atStart => exact ⟨0, by omega, rfl, h0, Below.refl _ _⟩
  case round =>
    obtain ⟨k, hk, rfl, hO, hB⟩ := hrel
    have HB := Lib.hid hB; have HO := Lib.hid hO
    clear hB hO h0
    by_cases hkn : k < 40
    · go_wp2_with (at_builtin; refine wpList_app37 rfl _ _ rfl w.heap.size u1 (chL k) rfl (HO.out.alloc _) (by rw [chL_len]; omega) wr.heap.size ((k : Int) + 1) rfl (Has.new wr 3 _) (newB HB.out _).size ?_; intro v2 w2 ho2 hb2 _; have HO2 := Lib.hid ho2; have HB2 := Lib.hid ((newB HB.out _).trans hb2); clear ho2 hb2)
      go_roundw
      case rel => exact ⟨k + 1, by omega, by go_num, by rw [chL_succ]; exact HO2.out, HB2.out⟩
      case measure => simp [intOf]; omega
    · have hke : k = 40 := by omega
      subst hke
      go_wp2
      have ho := HO.out
      rcases ho.2 with ⟨_, h⟩ | ⟨g, cap, cur, e1, h2, h3, h4, h5, h6, h7⟩
      · rw [chL_len] at h; omega
      · subst e1
        refine bodyPost_ret (results_tmp rfl _ _ _) rfl ⟨g, cap, rfl, ⟨cur, h3, rfl, fun j u hu => ?_⟩, HB.out⟩
        rw [← h7, List.getElem?_take] at hu
        split at hu
        · rw [← Array.getElem?_toList]; exact hu
        · cases hu
end Go.Proofs
namespace Go.Proofs
open Go.RowKit Go.Shelf Gas
attribute [local go_sem ↓] Go.wp_at_zero Go.wp_at_succ

def topS (l g : Int) : St := ⟨0, 0, l, g⟩
theorem topS_ok {l g : Int} (h : ordB l g 0 120 6 = true) : SOk (topS l g) := by
  simp only [ordB, decide_eq_true_eq] at h
  exact ⟨by simp [topS], by simp [topS], by simp only [topS]; omega⟩
def chamR (t : Tm) (a : FS) (l g : Int) : Option Pr := bestOf ltD (stopsL t.ps t.rs (stayH a.1 (topS l g), true) (chL 40))
def chamF (t : Tm) (dive : List St) (l g : Int) : Pr × Int :=
  if definedB t.ps t.ss t.rs dive 2 && ordB l g 0 120 6 then (match chamR t (folS t.ps t.rs (h0, true) dive) l g with | some s => (s, 0) | none => ((0, 0), 5)) else ((0, 0), 2)
theorem chL_ok : ∀ d ∈ chL 40, 0 ≤ d ∧ d ≤ 40 := by
  intro d hd
  simp only [chL, List.mem_map, List.mem_range] at hd
  obtain ⟨j, h1, rfl⟩ := hd
  omega

set_option maxHeartbeats 4000000 in
set_option maxRecDepth 50000 in
theorem Chamber_c (t : Tm) (ht : t.Small) (A : Option Addr) (n c : Nat) (dive : List St) (l g : Int) (hn : n ≤ 100000) (w : World) (hi : t.In w) (hd : SlOf St.cs 4 w A n dive) :
    Calls Tryz.prog 31 #[t.tab, t.man, .slice A n c, .agg #[.int .i64 l, .int .i64 g]] w fun e w' => e = .returned (stE (chamF t dive l g)) ∧ Below w.heap.size w w' := by
  have HD := Lib.hid fun (w' : World) (hb : Below w.heap.size w w') => defined_c t ht A n c dive 2 (by omega) (by omega) w' (hi.keep hb) (hd.keep hb)
  have HOK := Lib.hid fun h => defined_ok ht hi (dive := dive) (room := 2) h
  have B0 := Lib.hid (newB (newB (newB (newB (Below.refl w.heap.size w) (.cells #[.slice t.pA t.pn t.pc, .slice t.sA t.sn t.sc] 25)) (.cells #[.slice t.rA t.rn t.rc] 28)) (.cells #[.int .i64 l, .int .i64 g] 43)) (.cells #[.int .i64 0, .int .i64 0] 31))
  have T0 := Lib.hid ((((Has.new w 25 #[.slice t.pA t.pn t.pc, .slice t.sA t.sn t.sc]).alloc (.cells #[.slice t.rA t.rn t.rc] 28)).alloc (.cells #[.int .i64 l, .int .i64 g] 43)).alloc (.cells #[.int .i64 0, .int .i64 0] 31))
  have M0 := Lib.hid (((Has.new' (w.alloc (.cells #[.slice t.pA t.pn t.pc, .slice t.sA t.sn t.sc] 25)) 28 #[.slice t.rA t.rn t.rc] (g := w.heap.size + 1) (by simp)).alloc (.cells #[.int .i64 l, .int .i64 g] 43)).alloc (.cells #[.int .i64 0, .int .i64 0] 31))
  have S0 := Lib.hid ((Has.new' ((w.alloc (.cells #[.slice t.pA t.pn t.pc, .slice t.sA t.sn t.sc] 25)).alloc (.cells #[.slice t.rA t.rn t.rc] 28)) 43 #[.int .i64 l, .int .i64 g] (g := w.heap.size + 1 + 1) (by simp)).alloc (.cells #[.int .i64 0, .int .i64 0] 31))
  have Z0 := Lib.hid (Has.new' (((w.alloc (.cells #[.slice t.pA t.pn t.pc, .slice t.sA t.sn t.sc] 25)).alloc (.cells #[.slice t.rA t.rn t.rc] 28)).alloc (.cells #[.int .i64 l, .int .i64 g] 43)) 31 #[.int .i64 0, .int .i64 0] (g := w.heap.size + 1 + 1 + 1) (by simp))
  cases hdb : definedB t.ps t.ss t.rs dive 2
  · have HE := Lib.hid (show chamF t dive l g = ((0, 0), 2) by simp [chamF, hdb])
    rw [hdb] at HD
    rw [HE.out]
    clear hi hd HOK hdb
    obtain ⟨pA, sA, rA, pn, pc, sn, sc, rn, rc, ps, ss, rs⟩ := t
    simp only [Tm.tab, Tm.man] at *
    go_enter Tryz.func31, Tryz.ntmps31
    go_wp2_with (first
      | (go_at_call 56; refine (HD.out _ B0.out).mono ?_; rintro e w1 ⟨rfl, hb1⟩; have HB1 := Lib.hid (nextB B0.out hb1); have Z1 := Lib.hid (Z0.out.after hb1); clear hb1)
      | (refine wpList_store_all rfl 31 _ _ rfl (w.heap.size + 1 + 1 + 1) rfl _ rfl 31 _ Z1.out (by kernel_rfl) rfl (by simp [Value.oneCell']) ?_))
    exact bodyPost_ret (results_row_tmp Tryz.results31 _ _ (w.heap.size + 1 + 1 + 1) 31 _ (0, 0) _ rfl (Z1.out.setRow _) Tryz.underlying31 rfl (by kernel_rfl)) rfl ⟨rfl, rowB HB1.out (by omega) _⟩
  · rw [hdb] at HD
    cases hlg : ordB l g 0 120 6
    · have HE := Lib.hid (show chamF t dive l g = ((0, 0), 2) by simp [chamF, hlg])
      have HO := Lib.hid hlg
      rw [HE.out]
      clear hi hd HOK hdb hlg
      obtain ⟨pA, sA, rA, pn, pc, sn, sc, rn, rc, ps, ss, rs⟩ := t
      simp only [Tm.tab, Tm.man] at *
      go_enter Tryz.func31, Tryz.ntmps31
      go_wp2_with (first
        | (go_at_call 56; refine (HD.out _ B0.out).mono ?_; rintro e w1 ⟨rfl, hb1⟩; have HB1 := Lib.hid (nextB B0.out hb1); have Z1 := Lib.hid (Z0.out.after hb1); have cs := (S0.out.after hb1).cell; clear hb1)
        | (go_at_call 72; refine (long_c l g _).mono ?_; rintro e w2 ⟨rfl, hb2⟩; rw [HO.out]; have HB2 := Lib.hid (nextB HB1.out hb2); have Z2 := Lib.hid (Z1.out.after hb2); clear hb2)
        | (refine wpList_store_all rfl 31 _ _ rfl (w.heap.size + 1 + 1 + 1) rfl _ rfl 31 _ Z2.out (by kernel_rfl) rfl (by simp [Value.oneCell']) ?_))
      exact bodyPost_ret (results_row_tmp Tryz.results31 _ _ (w.heap.size + 1 + 1 + 1) 31 _ (0, 0) _ rfl (Z2.out.setRow _) Tryz.underlying31 rfl (by kernel_rfl)) rfl ⟨rfl, rowB HB2.out (by omega) _⟩
    · have HE := Lib.hid (show chamF t dive l g = (match chamR t (folS t.ps t.rs (h0, true) dive) l g with | some s => (s, 0) | none => ((0, 0), 5)) by simp [chamF, hdb, hlg])
      rw [HE.out]
      obtain ⟨hok, hs1, _⟩ := HOK.out hdb
      have HO := Lib.hid hlg
      have hsk := topS_ok hlg
      have HBg := Lib.hid fun (w' : World) (hb : Below w.heap.size w w') => begin_c t hok w' (hi.keep hb)
      have HFo := Lib.hid fun (w' : World) (hb : Below w.heap.size w w') (bm : Nat) (hm : MapAt w' bm (heldF t.rs h0)) => follow_c t h0 (h0_ok hok) bm true A n c dive (by omega) hs1 w' (hi.keep hb) hm (hd.keep hb)
      have ho1 := FolOk.folS dive (h0, true) (h0_ok hok) hs1
      obtain ⟨a1, ha1⟩ : ∃ a, a = folS t.ps t.rs (h0, true) dive := ⟨_, rfl⟩
      rw [← ha1] at HFo ho1
      rw [← ha1]
      clear ha1 HE
      obtain ⟨h1, k1⟩ := a1
      have HSt := Lib.hid fun (w' : World) (hb : Below w.heap.size w w') (bm : Nat) (hm : MapAt w' bm (heldF t.rs h1)) => stay_c t h1 ho1 (topS l g) hsk bm k1 w' (hi.keep hb) hm
      have HBe := Lib.hid fun (w' : World) (hb : Below w.heap.size w w') (bm fb bl bf gg cap : Nat) (hm : MapAt w' bm (heldF t.rs (stayH h1 (topS l g)))) (hf : Has w' fb 108 (folC t (.map (some bm)) true)) (hl : Has w' bl 23 #[.slice (some ⟨gg, 0, none⟩) 40 cap]) (hbf : Has w' bf 154 #[.func (.func 106) #[] #[.pointer (some ⟨fb, 0, none⟩)]]) (hs : RowOf inC 1 w' gg 3 40 (chL 40)) =>
        (show Calls Tryz.prog 73 _ w' fun e w2 => e = .returned (bestV (chamR t (h1, k1) l g)) ∧ Below w'.heap.size w' w2 from best_c 76 ltD (enters_of Tryz.func76 (by kernel_rfl) rfl) (fun a b w => near_c a b w) t _ (ho1.stay hsk) bm true fb bl bf (some ⟨gg, 0, none⟩) 40 cap (chL 40) chL_ok (by omega) w' (hi.keep hb) hm hf hl hbf (hs.sl inC_len))
      generalize chamR t (h1, k1) l g = cr at *
      clear hi hd HOK hdb hlg hok hs1 ho1 hsk
      have HFe := Lib.hid (show (topS l g).val = .agg #[.int .i64 0, .int .i64 0, .int .i64 l, .int .i64 g] from rfl)
      generalize enterB t.ps t.rs h1 (topS l g).dl k1 = k2 at *
      generalize stayH h1 (topS l g) = h2 at *
      rw [HFe.out] at HSt
      obtain ⟨pA, sA, rA, pn, pc, sn, sc, rn, rc, ps, ss, rs⟩ := t
      have HFV := Lib.hid (show ∀ b k, FolV ⟨pA, sA, rA, pn, pc, sn, sc, rn, rc, ps, ss, rs⟩ b k = .agg #[.slice pA pn pc, .slice sA sn sc, .slice rA rn rc, .map (some b), .bool k] from fun _ _ => rfl)
      simp only [Tm.tab, Tm.man] at *
      unfold bestV stV at HBe
      cases cr
      all_goals
        simp only [Option.getD_none, Option.getD_some, Option.isSome_none, Option.isSome_some] at HBe
        go_enter Tryz.func31, Tryz.ntmps31
        go_wp2_with (first
          | (go_at_call 56; refine (HD.out _ B0.out).mono ?_; rintro e w1 ⟨rfl, hb1⟩; have HB1 := Lib.hid (nextB B0.out hb1); have S1 := Lib.hid (S0.out.after hb1); have cs := S1.out.cell; have T1 := Lib.hid (T0.out.after hb1); have M1 := Lib.hid (M0.out.after hb1); have Z1 := Lib.hid (Z0.out.after hb1); clear hb1)
          | (go_at_call 72; refine (long_c l g _).mono ?_; rintro e w2 ⟨rfl, hb2⟩; rw [HO.out]; have HB2 := Lib.hid (nextB HB1.out hb2); have S2 := Lib.hid (S1.out.after hb2); have T2 := Lib.hid (T1.out.after hb2); have M2 := Lib.hid (M1.out.after hb2); have Z2 := Lib.hid (Z1.out.after hb2); clear hb2))
        clear cs
        apply wp_loose 9 [.v _, .v _, .r (fun v w' => ∃ b', v = .agg #[.slice pA pn pc, .slice sA sn sc, .slice rA rn rc, .map (some b'), .bool true] ∧ MapAt w' b' (heldF rs h0)), .v _, .r (fun v w' => ∃ b', v = .agg #[.slice pA pn pc, .slice sA sn sc, .slice rA rn rc, .map (some b'), .bool k1] ∧ MapAt w' b' (heldF rs h1)), .v _, .v _,
          .r (fun v w' => ∃ b', v = .agg #[.slice pA pn pc, .slice sA sn sc, .slice rA rn rc, .map (some b'), .bool k2] ∧ MapAt w' b' (heldF rs h2)), .r (NewR w2 108 #[.slice none 0 0, .slice none 0 0, .slice none 0 0, .map none, .bool false])] (by kernel_rfl) (by kernel_rfl) (by kernel_rfl) (by decide) rfl
        intro K hK
        refine OblS.row rfl 25 _ rfl w.heap.size rfl 25 _ _ T2.out Tryz.underlying25 rfl (by kernel_rfl) ?_
        refine OblS.row rfl 28 _ rfl (w.heap.size + 1) rfl 28 _ _ M2.out Tryz.underlying28 rfl (by kernel_rfl) ?_
        apply OblS.callR 57
        · rintro v w1 w2 ⟨b', e, hm⟩ hb; exact ⟨b', e, hm.keep hb⟩
        · rfl
        · intro w' hb _
          apply Exists.intro; apply And.intro; (go_simp; rfl); refine (HBg.out w' (nextB HB2.out hb)).mono ?_
          rintro e w2 ⟨b', rfl, hM, hb2⟩
          exact ⟨_, rfl, ⟨b', rfl, hM⟩, hb2⟩
        intro v2
        apply OblS.val rfl
        · intro w' hb _; go_simp; rfl
        apply OblS.callR 58
        · rintro v w1 w2 ⟨b', e, hm⟩ hb; exact ⟨b', e, hm.keep hb⟩
        · rfl
        · intro w' hb hH
          obtain ⟨b2, rfl, hM2⟩ := hH _ (List.mem_cons_self ..) (by kernel_rfl)
          apply Exists.intro; apply And.intro; (go_simp; rfl); refine (HFo.out w' (nextB HB2.out hb) b2 hM2).mono ?_
          rintro e w2 ⟨b', rfl, hM, hb2⟩
          exact ⟨_, rfl, ⟨b', rfl, hM⟩, hb2⟩
        intro v4
        refine OblS.row rfl 43 _ rfl (w.heap.size + 1 + 1) rfl 43 _ _ S2.out Tryz.underlying43 rfl (by kernel_rfl) ?_
        apply OblS.val rfl
        · intro w' hb _; go_simp; rfl
        apply OblS.callR 65
        · rintro v w1 w2 ⟨b', e, hm⟩ hb; exact ⟨b', e, hm.keep hb⟩
        · rfl
        · intro w' hb hH
          obtain ⟨b4, rfl, hM4⟩ := hH _ (List.mem_cons_self ..) (by kernel_rfl)
          apply Exists.intro; apply And.intro; (go_simp; rfl); refine (HSt.out w' (nextB HB2.out hb) b4 hM4).mono ?_
          rintro e w2 ⟨b', rfl, hM, hb2⟩
          exact ⟨_, rfl, ⟨b', rfl, hM⟩, hb2⟩
        intro v7
        apply OblS.makes ⟨rfl, fun a w => by kernel_rfl⟩
        intro v8
        apply OblS.nil
        apply hK
        intro w3 hb hH
        obtain ⟨b7, rfl, hM7⟩ := hH _ (List.mem_cons_of_mem _ (List.mem_cons_self ..))
        obtain ⟨B, rfl, hB1, hB2⟩ := hH _ (List.mem_cons_self ..)
        clear hH hK K
        simp only [Act.put, List.setIfInBounds_toArray, List.set_cons_zero, List.set_cons_succ, List.drop_succ_cons, List.drop_zero]
        have HB3 := Lib.hid (rowB (nextB HB2.out hb) (by have := HB2.out.size; omega : w.heap.size ≤ B) #[.slice pA pn pc, .slice sA sn sc, .slice rA rn rc, .map (some b7), .bool k2])
        have hBZ : w.heap.size + 1 + 1 + 1 < B := by have := Z2.out.lt; omega
        have hBw : w.heap.size ≤ B := by omega
        have HBx := Lib.hid hB2
        have F3 := Lib.hid (hB2.setRow #[.slice pA pn pc, .slice sA sn sc, .slice rA rn rc, .map (some b7), .bool k2])
        have Z3 := Lib.hid ((Z2.out.after hb).setRow_far (show w.heap.size + 1 + 1 + 1 ≠ B by omega) #[.slice pA pn pc, .slice sA sn sc, .slice rA rn rc, .map (some b7), .bool k2])
        have HM3 := Lib.hid (hM7.setRow (hM7.ne hB2) #[.slice pA pn pc, .slice sA sn sc, .slice rA rn rc, .map (some b7), .bool k2])
        have c3 := F3.out.cell; have f3 := F3.out.frozen
        clear hb hB2 hM7
        go_wp2_with (refine wpList_store_all rfl 108 _ _ rfl B rfl _ rfl 108 _ HBx.out (by kernel_rfl) rfl (by simp [Value.oneCell']) ?_)
        clear c3 f3
        have F4 := Lib.hid ((F3.out.set 4 (.bool true)).eq (show _ = #[.slice pA pn pc, .slice sA sn sc, .slice rA rn rc, .map (some b7), .bool true] from rfl))
        have Z4 := Lib.hid (Z3.out.far (p := ⟨B, 4, none⟩) (by show w.heap.size + 1 + 1 + 1 ≠ B; omega) (.bool true))
        have HB4 := Lib.hid (setB HB3.out (p := ⟨B, 4, none⟩) hBw (.bool true))
        have HM4 := Lib.hid (HM3.out.setCell (p := ⟨B, 4, none⟩) (by show b7 ≠ B; exact HM3.out.ne F3.out) (.bool true))
        generalize (w3.setRow B #[.slice pA pn pc, .slice sA sn sc, .slice rA rn rc, .map (some b7), .bool k2]).setCell ⟨B, 4, none⟩ (.bool true) = W4 at *
        apply wp_floats 8 6 [.v _, .r (fun v w' => ∃ g cap, v = .slice (some ⟨g, 0, none⟩) 40 cap ∧ RowOf inC 1 w' g 3 40 (chL 40)),
          .r (fun v w' => ∃ fb bl bf g cap, v = .func (.func 107) #[] #[.pointer (some ⟨bl, 0, none⟩), .pointer (some ⟨bf, 0, none⟩)] ∧ Has w' fb 108 #[.slice pA pn pc, .slice sA sn sc, .slice rA rn rc, .map (some b7), .bool true] ∧ Has w' bl 23 #[.slice (some ⟨g, 0, none⟩) 40 cap] ∧ Has w' bf 154 #[.func (.func 106) #[] #[.pointer (some ⟨fb, 0, none⟩)]] ∧ RowOf inC 1 w' g 3 40 (chL 40)),
          .v _, .v _, .v _, .p _, .r (NewR W4 31 #[.int .i64 0, .int .i64 0])] (by kernel_rfl) (by kernel_rfl) (by kernel_rfl) (by decide) rfl (by decide) rfl rfl (by kernel_rfl)
        intro K hK
        refine OblS.row rfl 108 _ rfl B rfl 108 _ _ F4.out Tryz.underlying108 rfl (by kernel_rfl) ?_
        apply OblS.callR 75
        · rintro v w1 w2 ⟨g1, cap, e, hr⟩ hb; exact ⟨g1, cap, e, hr.keep hb⟩
        · rfl
        · intro w' hb _
          apply Exists.intro; apply And.intro; (go_simp; rfl); refine (chambers_c w').mono ?_
          rintro e w2 ⟨g1, cap, rfl, hR, hb2⟩
          exact ⟨_, rfl, ⟨g1, cap, rfl, hR⟩, hb2⟩
        intro v1
        apply OblS.callR 74
        · rintro v w1 w2 ⟨fb, bl, bf, g1, cap, e, h1, h2, h3, h4⟩ hb; exact ⟨fb, bl, bf, g1, cap, e, h1.after hb, h2.after hb, h3.after hb, h4.keep hb⟩
        · rfl
        · intro w' hb hH
          obtain ⟨g1, cap, rfl, hR⟩ := hH _ (List.mem_cons_self ..) (by kernel_rfl)
          apply Exists.intro; apply And.intro; (go_simp; rfl); refine (stops_c _ _ _ _ _ _ _ _ w').mono ?_
          rintro e w2 ⟨rfl, rfl⟩
          exact ⟨_, rfl, ⟨w'.heap.size, w'.heap.size + 1, w'.heap.size + 1 + 1, g1, cap, rfl, ((Has.new w' 108 _).alloc _).alloc _, (Has.new' _ 23 _ (by simp)).alloc _, Has.new' _ 154 _ (by simp), ((hR.keep (newB (Below.refl _ _) _)).keep (newB (Below.refl _ _) _)).keep (newB (Below.refl _ _) _)⟩, newB (newB (newB (Below.refl _ _) _) _) _⟩
        intro v2'
        apply OblS.call 73 rfl
        · intro w' hb hH
          obtain ⟨fb, bl, bf, g1, cap, rfl, q1, q2, q3, q4⟩ := hH _ (List.mem_cons_self ..) (by kernel_rfl)
          apply Exists.intro; apply And.intro; (go_simp; rfl); exact HBe.out w' (nextB HB4.out hb) b7 fb bl bf g1 cap (HM4.out.keep hb) q1 q2 q3 q4
        apply OblS.val rfl
        · intro w' hb _; go_simp; rfl
        apply OblS.val rfl
        · intro w' hb _; go_simp; rfl
        apply OblS.pure rfl
        · intro w'; go_simp; rfl
        apply OblS.makes ⟨rfl, fun a w => by kernel_rfl⟩
        intro v7
        apply OblS.nil
        apply hK
        intro w5 hb hH
        obtain ⟨B5, rfl, hB5, hBx5⟩ := hH _ (List.mem_cons_self ..)
        clear hH hK K
        simp only [Act.put, List.setIfInBounds_toArray, List.set_cons_zero, List.set_cons_succ, List.drop_succ_cons, List.drop_zero]
        have HBy := Lib.hid hBx5
        have hB5w : w.heap.size ≤ B5 := by have := HB4.out.size; omega
        have hne : w.heap.size + 1 + 1 + 1 ≠ B5 := by have := Z4.out.lt; omega
        have HB5 := Lib.hid fun cs => rowB (nextB HB4.out hb) hB5w cs
        have Z5 := Lib.hid fun cs => (Z4.out.after hb).setRow_far hne cs
        have HR := Lib.hid fun (cs : Array Value) => hBx5.setRow cs
        clear hb hBx5
        go_wp2_with (refine wpList_store_all rfl 31 _ _ rfl B5 rfl _ rfl 31 _ HBy.out (by kernel_rfl) rfl (by simp [Value.oneCell']) ?_)
        dsimp only [OnlyN, Exit.then]
        go_wp2_with (first
          | (refine wpList_load_row rfl 31 _ rfl B5 rfl 31 _ (0, 0) _ (HR.out _) Tryz.underlying31 rfl (by kernel_rfl) ?_)
          | (refine wpList_store_all rfl 31 _ _ rfl (w.heap.size + 1 + 1 + 1) rfl _ rfl 31 _ (Z5.out _) (by kernel_rfl) rfl (by simp [Value.oneCell']) ?_))
        exact bodyPost_ret (results_row_tmp Tryz.results31 _ _ (w.heap.size + 1 + 1 + 1) 31 _ (0, 0) _ rfl ((Z5.out _).setRow _) Tryz.underlying31 rfl (by kernel_rfl)) rfl ⟨rfl, rowB (HB5.out _) (by omega) _⟩
end Go.Proofs
