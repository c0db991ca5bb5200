/-
  The contract of Read holds at every text where numbers are written by strconv.
-/
import Derived.Test.YtplhaohcmhepbaaGreatDoorP1
import Derived.Test.YtplhaohcmhepbaaGreatDoorP5
import Derived.Test.YtplhaohcmhepbaaGreatDoorP7
import Derived.Defers
import Derived.Recover
namespace Go.Proofs
open Go.RowKit
section
variable {P : Program} {ops : Array Oper}
/-- As MkS, where the operation may also give up with c0. -/
def MkSP (c0 : List PanicEntry) (P : Program) (ops : Array Oper) (s : Spec) (o : Oper) (a : Act) (w : World) : Prop :=
  (Region.wanted o (yielded ops a.tmps) = true ∧ o.wp P a w (fun a' w' => ∃ v, a' = a.put o.dst v ∧ s.holds v w' ∧ Below w.heap.size w w') (fun x _ w' => x = .panic c0 ∧ Below w.heap.size w w')) ∨
  (Region.wanted o (yielded ops a.tmps) = false ∧ s.holds undef w)

theorem MkSP.wpOp {c0 : List PanicEntry} {w : World} {i : Nat} {o : Oper} {s : Spec} {a b : Act} (hi : ops[i]? = some o) (hs : a.tmps.size = b.tmps.size)
    (he : execOp b.eval o = execOp a.eval o) (hw : Region.wanted o (yielded ops b.tmps) = Region.wanted o (yielded ops a.tmps)) (h : MkSP c0 P ops s o a w)
    {K : Act → World → Prop} {Q : Exit → Act → World → Prop} (hK : ∀ v w', s.holds v w' → Below w.heap.size w w' → K (b.put o.dst v) w') (hPn : ∀ w', Below w.heap.size w w' → Q (.panic c0) b w') : Go.wpOp P ops Q i K b w := by
  unfold Go.wpOp
  simp only [hi]
  rcases h with ⟨h1, h3⟩ | ⟨h1, h2⟩
  · rw [hw, if_pos h1]
    left
    unfold Oper.wp at h3 ⊢
    rw [he]
    have fin : ∀ u w', (∃ v, a.put o.dst u = a.put o.dst v ∧ s.holds v w' ∧ Below w.heap.size w w') → K (b.put o.dst u) w' := fun u w' ⟨v, e1, e2, e3⟩ => by
      rw [Act.put_same hs e1]; exact hK v w' e2 e3
    generalize (execOp a.eval o).run P w = r at h3 ⊢
    cases r with
    | ok n w' =>
      cases n <;> simp only [Oper.upon] at h3 ⊢ <;> first | exact h3.elim | skip
      case value u => exact fin _ _ h3
      case skip => exact fin _ _ h3
      case enter f args =>
        refine Calls.mono h3 (fun e w'' h4 => ?_)
        cases e with
        | returned u => exact fin _ _ h4
        | panicked c => obtain ⟨h5, h6⟩ := h4; cases h5; exact hPn _ h6
        | outgrown => obtain ⟨_, _, h5⟩ := h4; cases h5.1
      case defer d =>
        exfalso
        obtain ⟨v, e0, _⟩ := h3
        have := congrArg Act.defers e0
        have e1 : ∀ (x : Act) (d : Option Tmp) (u : Value), (x.put d u).defers = x.defers := by intro x d u; cases d <;> rfl
        rw [e1, e1] at this
        exact absurd (congrArg List.length this) (by simp)
      case row row args =>
        refine Rows.mono h3 (fun u w'' h4 => ?_)
        exact fin _ _ h4
    | halt x w' =>
      cases x <;> simp only [Oper.upon] at h3 ⊢ <;> first | exact h3.elim | skip
      obtain ⟨h5, h6⟩ := h3
      cases h5
      exact hPn _ h6
  · rw [hw, if_neg (by rw [h1]; decide)]
    exact hK _ _ h2 (Below.refl _ _)

theorem free_anyP {c0 : List PanicEntry} {m : Nat} (hF : freeB ops m none = true) (hT : tailB ops m = true) {Q : Exit → Act → World → Prop} {a : Act} {w0 : World} (sp : Nat → Spec) (hst : ∀ i, i < m → (sp i).stable)
    (hN : ∀ i o, i < m → ops[i]? = some o → ∀ vs w, (∀ j x, (sp j).fix = some x → vs j = x) → Below w0.heap.size w0 w → (∀ j, j < i → waits o j = true → (sp j).holds (vs j) w) → MkSP c0 P ops (sp i) o (canon ops vs (fun j => decide (j < i)) a m) w)
    (hPn : ∀ (b : Act) w, b.defers = a.defers → Below w0.heap.size w0 w → Q (.panic c0) b w) (hK : ∀ vs w, (∀ j x, (sp j).fix = some x → vs j = x) → Below w0.heap.size w0 w → (∀ j, j < m → (sp j).holds (vs j) w) → wpList P ops Q (ops.toList.drop m) (canon ops vs (fun _ => true) a m) w) (hms : m ≤ ops.size) :
    ∀ (f : Nat) (listed : Array Bool) (vs : Nat → Value) (w : World), HeadInv .any ops m listed → (List.range m).countP (fun j => !selOf listed j) + (ops.size - m) ≤ f → (∀ j x, (sp j).fix = some x → vs j = x) →
      Below w0.heap.size w0 w → (∀ j, j < m → selOf listed j = true → (sp j).holds (vs j) w) → wpAny P .any ops Q f listed (canon ops vs (selOf listed) a m) w := by
  intro f
  induction f with
  | zero =>
    intro listed vs w inv hf hfx hB hq
    have hall : ∀ j, j < m → selOf listed j = true := fun j hj => by
      have h0 : (List.range m).countP (fun j => !selOf listed j) = 0 := by omega
      have := List.countP_eq_zero.1 h0 j (List.mem_range.2 hj)
      simpa using this
    rw [canon_congr (vs' := vs) (sel' := fun _ => true) m (fun j hj => ⟨hall j hj, fun _ => rfl⟩)]
    exact tail_any hF hT 0 m listed _ w (Nat.le_refl _) hms (by omega) ⟨inv.size, hall, inv.tail⟩ (hK vs w hfx hB (fun j hj => hq j hj (hall j hj)))
  | succ f ih =>
    intro listed vs w inv hf hfx hB hq
    by_cases hall : ∀ j, j < m → selOf listed j = true
    · rw [canon_congr (vs' := vs) (sel' := fun _ => true) m (fun j hj => ⟨hall j hj, fun _ => rfl⟩)]
      exact tail_any hF hT (f + 1) m listed _ w (Nat.le_refl _) hms (by omega) ⟨inv.size, hall, inv.tail⟩ (hK vs w hfx hB (fun j hj => hq j hj (hall j hj)))
    · have hex : ∃ j, j < m ∧ selOf listed j = false ∧ ∀ k, k < j → selOf listed k = true := by
        have h1 : ∃ j, j < m ∧ selOf listed j = false := by
          refine Classical.byContradiction fun hno => hall fun j hj => ?_
          cases hs : selOf listed j with
          | true => rfl
          | false => exact absurd ⟨j, hj, hs⟩ hno
        obtain ⟨j, hj⟩ := h1
        induction j using Nat.strongRecOn with
        | _ j ihj =>
          by_cases hk : ∀ k, k < j → selOf listed k = true
          · exact ⟨j, hj.1, hj.2, hk⟩
          · have : ∃ k, k < j ∧ selOf listed k = false := by
              refine Classical.byContradiction fun hno => hk fun k hk' => ?_
              cases hs : selOf listed k with
              | true => rfl
              | false => exact absurd ⟨k, hk', hs⟩ hno
            obtain ⟨k, hk1, hk2⟩ := this
            exact ihj k hk1 ⟨by omega, hk2⟩
      obtain ⟨j, hjm, hju, hjb⟩ := hex
      obtain ⟨oj, hoj⟩ : ∃ oj, ops[j]? = some oj := ⟨_, Array.getElem?_eq_getElem (by omega)⟩
      have hjr : j ∈ Region.ready .any ops listed := mem_ready.2 ⟨hju, oj, hoj, fun e he hb => by
        have h1 := (freeB_spec hF hoj).back e he hb
        have h2 := hjb e.on h1
        have h3 : e.on < listed.size := by rw [inv.size]; omega
        unfold selOf at h2
        simp [h3] at h2 ⊢; exact h2⟩
      refine ⟨fun h0 => absurd hjr (by rw [h0]; exact List.not_mem_nil), fun i hi => ?_⟩
      obtain ⟨hu, o, ho, hafter⟩ := mem_ready.1 hi
      have hisz : i < ops.size := (Array.getElem?_eq_some_iff.1 ho).1
      have him : i < m := by
        unfold tailB at hT
        simp only [Bool.or_eq_true, decide_eq_true_eq, Bool.and_eq_true] at hT
        rcases hT with hT | ⟨⟨hlt, hs⟩, hc⟩
        · omega
        · exact Nat.lt_of_not_le fun hge => tail_waits hs hc hlt inv _ j rfl hjm hju i hge hi
      have hF' := freeB_spec hF ho
      have hdst : dstOf ops i = o.dst := by simp [dstOf, ho]
      have hdis : ∀ k, k < m → k ≠ i → ∀ d, dstOf ops k = some d → dstOf ops i ≠ some d := fun k hk hne d hd => by
        rw [hdst]; exact (hF'.apart him k hk hne d hd).1
      have hsel' : selOf (listed.setIfInBounds i true) = fun k => selOf listed k || k == i := by
        funext k
        unfold selOf
        by_cases hki : k = i
        · subst hki
          have : k < listed.size := by rw [inv.size]; exact hisz
          simp [this]
        · rw [getD_set_ne true (Ne.symm hki)]
          simp [hki]
      have hcount : (List.range m).countP (fun k => !selOf (listed.setIfInBounds i true) k) < (List.range m).countP (fun k => !selOf listed k) := by
        refine countP_lt (x := i) (List.mem_range.2 him) (fun y hy => ?_) (by simp [selOf, hu]) (by rw [hsel']; simp)
        rw [hsel'] at hy
        simp at hy
        simp [hy.1]
      have hsz : ∀ vs' sel', (canon ops vs' sel' a m).tmps.size = a.tmps.size := fun vs' sel' => (canon_size m).1
      have hev := looks_eval (vs := vs) (vs' := vs) (a := a) hF ho him inv hms hi (fun k _ => rfl)
      have hsame : (fun j => decide (j < i) && (none : Option Nat) != some j) = fun j => decide (j < i) := by funext j; simp
      rw [hsame] at hev
      obtain ⟨he, hw⟩ := getLooks (ops := ops) (o := o) hF'.sel (by rw [hsz, hsz]) hev
      refine (hN i o him ho vs w hfx hB (fun j hj hwt => ?_)).wpOp ho (by rw [hsz, hsz]) he hw (fun v w' hv hb => ?_) (fun w' hb => hPn _ _ (canon_size m).2 (nextB hB hb))
      · obtain ⟨e, he', hb', hon⟩ := waits_spec hwt
        have h5 := hafter e he' hb'
        rw [hon] at h5
        have hjs : j < listed.size := by rw [inv.size]; omega
        refine hq j (by omega) ?_
        unfold selOf
        simp [hjs] at h5 ⊢; exact h5
      · have e1 : canon ops vs (selOf listed) a m = canon ops (fun k => if k = i then v else vs k) (selOf listed) a m :=
          canon_congr m (fun k hk => ⟨rfl, fun hs => by
            have : k ≠ i := fun h' => by subst h'; unfold selOf at hs; rw [hu] at hs; cases hs
            simp [this]⟩)
        have e2 : (canon ops vs (selOf listed) a m).put o.dst v = canon ops (fun k => if k = i then v else vs k) (selOf (listed.setIfInBounds i true)) a m := by
          rw [hsel', canon_put hu m him hdis, e1, hdst]
          simp
        rw [e2]
        refine ih _ _ w' (inv.set hi him) (by omega) (fun k x hk => ?_) (hB.trans (hb.mono hB.size)) (fun k hk hs => ?_)
        · by_cases hki : k = i
          · subst hki; simp only [if_true]; exact Spec.holds_fix hk hv
          · simp only [if_neg hki]; exact hfx k x hk
        · by_cases hki : k = i
          · subst hki; simp only [if_true]; exact hv
          · simp only [if_neg hki]
            have hk2 : selOf listed k = true := by
              rw [hsel'] at hs
              simpa [hki] using hs
            exact Spec.keep (hst k hk) (hq k hk hk2) hb

/-- In the order of the text: what each operation leaves. -/
def OblP (c0 : List PanicEntry) (P : Program) (ops : Array Oper) (w0 : World) : Nat → List Spec → List Oper → Act → Hyps → (Act → Hyps → Prop) → Prop
  | _, [], [], a, H, K => K a H
  | i, .v x :: S, o :: r, a, H, K => (∀ w, Below w0.heap.size w0 w → (∀ p ∈ H, waits o p.1 = true → p.2 w) → MkSP c0 P ops (.v x) o a w) ∧ OblP c0 P ops w0 (i + 1) S r (a.put o.dst x) H K
  | i, .p x :: S, o :: r, a, H, K => (Region.wanted o (yielded ops a.tmps) = true ∧ ∀ w, (execOp a.eval o).run P w = .ok (.value x) w) ∧ OblP c0 P ops w0 (i + 1) S r (a.put o.dst x) H K
  | i, .r R :: S, o :: r, a, H, K => (Spec.r R).stable ∧ (∀ w, Below w0.heap.size w0 w → (∀ p ∈ H, waits o p.1 = true → p.2 w) → MkSP c0 P ops (.r R) o a w) ∧ ∀ v, OblP c0 P ops w0 (i + 1) S r (a.put o.dst v) ((i, R v) :: H) K
  | _, _, _, _, _, _ => False

theorem OblP.all {c0 : List PanicEntry} {w0 : World} {a0 : Act} {K : Act → Hyps → Prop} (sp : Nat → Spec) (vs : Nat → Value) (hfx : ∀ j x, (sp j).fix = some x → vs j = x) : ∀ (S : List Spec) (l : List Oper) (i : Nat) (H : Hyps), (∀ j s, S[j]? = some s → sp (i + j) = s) → (∀ j o, l[j]? = some o → ops[i + j]? = some o) →
    (∀ p ∈ H, ∃ j R, p = (j, R (vs j)) ∧ j < i ∧ sp j = .r R) → OblP c0 P ops w0 i S l (canon ops vs (fun _ => true) a0 i) H K →
    (∀ j o, i ≤ j → j < i + l.length → ops[j]? = some o → (sp j).stable ∧ ∀ w, Below w0.heap.size w0 w → (∀ k, k < j → waits o k = true → (sp k).holds (vs k) w) → MkSP c0 P ops (sp j) o (canon ops vs (fun _ => true) a0 j) w) ∧
    (∀ j o x, i ≤ j → j < i + l.length → ops[j]? = some o → sp j = .p x → Region.wanted o (yielded ops (canon ops vs (fun _ => true) a0 j).tmps) = true ∧ ∀ w, (execOp (canon ops vs (fun _ => true) a0 j).eval o).run P w = .ok (.value x) w) ∧
    ∃ H', (∀ p ∈ H', ∃ j R, p = (j, R (vs j)) ∧ j < i + l.length ∧ sp j = .r R) ∧ K (canon ops vs (fun _ => true) a0 (i + l.length)) H'
  | [], [], i, H, _, _, hH, h => ⟨fun j o h1 h2 => by simp at h2; omega, fun j o x h1 h2 => by simp at h2; omega, H, by simpa using hH, h⟩
  | [], _ :: _, _, _, _, _, _, h => h.elim
  | .v _ :: _, [], _, _, _, _, _, h => h.elim
  | .p _ :: _, [], _, _, _, _, _, h => h.elim
  | .r _ :: _, [], _, _, _, _, _, h => h.elim
  | .v x :: S, o :: r, i, H, hS, hl, hH, h => by
    obtain ⟨h1, h2⟩ := h
    have hi : ops[i]? = some o := by simpa using hl 0 o rfl
    have hd : dstOf ops i = o.dst := by simp [dstOf, hi]
    have hsp : sp i = .v x := by simpa using hS 0 _ rfl
    have e : canon ops vs (fun _ => true) a0 (i + 1) = (canon ops vs (fun _ => true) a0 i).put o.dst x := by simp [canon, hd, hfx i x (by rw [hsp]; rfl)]
    rw [← e] at h2
    obtain ⟨k1, kp, H', k2, k3⟩ := OblP.all sp vs hfx S r (i + 1) H (fun j s hj => by have := hS (j + 1) s (by simpa using hj); rw [show i + 1 + j = i + (j + 1) by omega]; exact this)
      (fun j o' hj => by have := hl (j + 1) o' (by simpa using hj); rw [show i + 1 + j = i + (j + 1) by omega]; exact this) (fun p hp => by obtain ⟨j, R, e1, e2, e3⟩ := hH p hp; exact ⟨j, R, e1, by omega, e3⟩) h2
    refine ⟨fun j o' hj1 hj2 ho' => ?_, fun j o' x' hj1 hj2 ho' hx' => ?_, H', fun p hp => ?_, ?_⟩
    · by_cases hji : j = i
      · subst hji
        have : o' = o := Option.some.inj (ho'.symm.trans hi)
        subst this
        refine ⟨by rw [hsp]; trivial, fun w hB hw => ?_⟩
        rw [hsp]
        refine h1 w hB (fun p hp hwt => ?_)
        obtain ⟨q, R, rfl, e2, e3⟩ := hH p hp
        have := hw q e2 hwt
        rw [e3] at this; exact this
      · exact k1 j o' (by omega) (by simp at hj2; omega) ho'
    · by_cases hji : j = i
      · subst hji; rw [hsp] at hx'; cases hx'
      · exact kp j o' x' (by omega) (by simp at hj2; omega) ho' hx'
    · obtain ⟨j, R, e1, e2, e3⟩ := k2 p hp
      exact ⟨j, R, e1, by simp; omega, e3⟩
    · rw [show i + (o :: r).length = i + 1 + r.length by simp; omega]; exact k3
  | .p x :: S, o :: r, i, H, hS, hl, hH, h => by
    obtain ⟨h1, h2⟩ := h
    have hi : ops[i]? = some o := by simpa using hl 0 o rfl
    have hd : dstOf ops i = o.dst := by simp [dstOf, hi]
    have hsp : sp i = .p x := by simpa using hS 0 _ rfl
    have e : canon ops vs (fun _ => true) a0 (i + 1) = (canon ops vs (fun _ => true) a0 i).put o.dst x := by simp [canon, hd, hfx i x (by rw [hsp]; rfl)]
    rw [← e] at h2
    obtain ⟨k1, kp, H', k2, k3⟩ := OblP.all sp vs hfx S r (i + 1) H (fun j s hj => by have := hS (j + 1) s (by simpa using hj); rw [show i + 1 + j = i + (j + 1) by omega]; exact this)
      (fun j o' hj => by have := hl (j + 1) o' (by simpa using hj); rw [show i + 1 + j = i + (j + 1) by omega]; exact this) (fun p hp => by obtain ⟨j, R, e1, e2, e3⟩ := hH p hp; exact ⟨j, R, e1, by omega, e3⟩) h2
    refine ⟨fun j o' hj1 hj2 ho' => ?_, fun j o' x' hj1 hj2 ho' hx' => ?_, H', fun p hp => ?_, ?_⟩
    · by_cases hji : j = i
      · subst hji
        have : o' = o := Option.some.inj (ho'.symm.trans hi)
        subst this
        refine ⟨by rw [hsp]; trivial, fun w hB hw => ?_⟩
        rw [hsp]
        exact .inl ⟨h1.1, by unfold Oper.wp; rw [h1.2 w]; exact ⟨x, rfl, rfl, Below.refl _ _⟩⟩
      · exact k1 j o' (by omega) (by simp at hj2; omega) ho'
    · by_cases hji : j = i
      · subst hji
        have : o' = o := Option.some.inj (ho'.symm.trans hi)
        subst this
        rw [hsp] at hx'; cases hx'
        exact h1
      · exact kp j o' x' (by omega) (by simp at hj2; omega) ho' hx'
    · obtain ⟨j, R, e1, e2, e3⟩ := k2 p hp
      exact ⟨j, R, e1, by simp; omega, e3⟩
    · rw [show i + (o :: r).length = i + 1 + r.length by simp; omega]; exact k3
  | .r R0 :: S, o :: r, i, H, hS, hl, hH, h => by
    obtain ⟨h0, h1, h2'⟩ := h
    have h2 := h2' (vs i)
    have hi : ops[i]? = some o := by simpa using hl 0 o rfl
    have hd : dstOf ops i = o.dst := by simp [dstOf, hi]
    have hsp : sp i = .r R0 := by simpa using hS 0 _ rfl
    have e : canon ops vs (fun _ => true) a0 (i + 1) = (canon ops vs (fun _ => true) a0 i).put o.dst (vs i) := by simp [canon, hd]
    rw [← e] at h2
    obtain ⟨k1, kp, H', k2, k3⟩ := OblP.all sp vs hfx S r (i + 1) ((i, R0 (vs i)) :: H) (fun j s hj => by have := hS (j + 1) s (by simpa using hj); rw [show i + 1 + j = i + (j + 1) by omega]; exact this)
      (fun j o' hj => by have := hl (j + 1) o' (by simpa using hj); rw [show i + 1 + j = i + (j + 1) by omega]; exact this) (fun p hp => by
        rcases List.mem_cons.1 hp with rfl | hp
        · exact ⟨i, R0, rfl, by omega, hsp⟩
        · obtain ⟨j, R, e1, e2, e3⟩ := hH p hp; exact ⟨j, R, e1, by omega, e3⟩) h2
    refine ⟨fun j o' hj1 hj2 ho' => ?_, fun j o' x' hj1 hj2 ho' hx' => ?_, H', fun p hp => ?_, ?_⟩
    · by_cases hji : j = i
      · subst hji
        have : o' = o := Option.some.inj (ho'.symm.trans hi)
        subst this
        refine ⟨by rw [hsp]; exact h0, fun w hB hw => ?_⟩
        rw [hsp]
        refine h1 w hB (fun p hp hwt => ?_)
        obtain ⟨q, R, rfl, e2, e3⟩ := hH p hp
        have := hw q e2 hwt
        rw [e3] at this; exact this
      · exact k1 j o' (by omega) (by simp at hj2; omega) ho'
    · by_cases hji : j = i
      · subst hji; rw [hsp] at hx'; cases hx'
      · exact kp j o' x' (by omega) (by simp at hj2; omega) ho' hx'
    · obtain ⟨j, R, e1, e2, e3⟩ := k2 p hp
      exact ⟨j, R, e1, by simp; omega, e3⟩
    · rw [show i + (o :: r).length = i + 1 + r.length by simp; omega]; exact k3
end
section
variable {P : Program} {l : List Oper} {Q : Exit → Act → World → Prop} {a : Act} {w : World}
theorem any_looseP {c0 : List PanicEntry} {m : Nat} (S : List Spec) (hPn : ∀ (b : Act) w', b.defers = a.defers → Below w.heap.size w w' → Q (.panic c0) b w') (hF : freeB l.toArray m none = true) (hT : tailB l.toArray m = true) (hms : m ≤ l.length) (hSm : S.length = m)
    (h : OblP c0 P l.toArray w 0 S (l.take m) a [] (fun a' H => ∀ w', Below w.heap.size w w' → (∀ p ∈ H, p.2 w') → wpList P l.toArray Q (l.drop m) a' w')) :
    wpAny P .any l.toArray Q l.toArray.size (Array.replicate l.toArray.size false) a { w with drawn := w.drawn + 1 } := by
  obtain ⟨sp, hsp⟩ : ∃ sp : Nat → Spec, sp = fun j => S.getD j (.v undef) := ⟨_, rfl⟩
  obtain ⟨vs0, hvs0⟩ : ∃ vs0 : Nat → Value, vs0 = fun j => ((sp j).fix).getD undef := ⟨_, rfl⟩
  have hfx0 : ∀ j x, (sp j).fix = some x → vs0 j = x := fun j x hj => by rw [hvs0]; simp only [hj, Option.getD_some]
  have key := fun (vs : Nat → Value) (hfx : ∀ j x, (sp j).fix = some x → vs j = x) => OblP.all (P := P) (ops := l.toArray) (a0 := a) sp vs hfx S (l.take m) 0 [] (fun j s hj => by rw [hsp]; simp [hj])
    (fun j o hj => by
      have hjm : j < m := by have := (List.getElem?_eq_some_iff.1 hj).1; simp at this; omega
      simp only [List.getElem?_take, hjm, if_true] at hj
      simpa using hj) (fun p hp => absurd hp List.not_mem_nil) h
  have hlen : (l.take m).length = m := by simp; omega
  have hcut := fun (vs : Nat → Value) i (hi : i ≤ m) => canon_cut (ops := l.toArray) (vs := vs) (s := fun _ => true) (a := a) m hi
  have e0 : a = canon l.toArray vs0 (selOf (Array.replicate l.toArray.size false)) a m := by
    have e1 : canon l.toArray vs0 (selOf (Array.replicate l.toArray.size false)) a m = canon l.toArray vs0 (fun j => decide (j < 0) && true) a m :=
      canon_congr m (fun j hj => ⟨by simp [selOf, show j < l.length by omega], fun _ => rfl⟩)
    rw [e1, hcut vs0 0 (by omega)]; rfl
  have := free_anyP (c0 := c0) (P := P) (ops := l.toArray) (m := m) hF hT (Q := Q) (a := a) (w0 := w) sp
    (fun i hi => by
      have ho : ∃ o, l.toArray[i]? = some o := ⟨_, Array.getElem?_eq_getElem (by simp; omega)⟩
      obtain ⟨o, ho⟩ := ho
      exact ((key vs0 hfx0).1 i o (by omega) (by rw [hlen]; omega) ho).1)
    (fun i o hi ho vs w' hfx hB hw => by
      have := ((key vs hfx).1 i o (by omega) (by rw [hlen]; omega) ho).2 w' hB hw
      rw [← hcut vs i (by omega)] at this
      simpa using this)
    hPn (fun vs w' hfx hB hw => by
      obtain ⟨H', k2, k3⟩ := (key vs hfx).2.2
      rw [hlen, Nat.zero_add] at k3
      simpa using k3 w' hB (fun p hp => by
        obtain ⟨j, R, rfl, e2, e3⟩ := k2 p hp
        have := hw j (by rw [hlen] at e2; omega)
        rw [e3] at this; exact this)) (by simpa using hms)
    l.toArray.size (Array.replicate l.toArray.size false) vs0 { w with drawn := w.drawn + 1 } (head0 m)
    (by have := count_le (p := fun j => !selOf (Array.replicate l.toArray.size false) j) m; simp only [List.size_toArray] at *; omega) hfx0 (Below.refl _ w).drew
    (fun j hj hs => by simp [selOf, show j < l.length by omega] at hs)
  rw [← e0] at this
  exact this

/-- The operations before number m in whatever order, each leaving what its word says; the rest behind them. -/
theorem wp_looseP {c0 : List PanicEntry} (hPn : ∀ (b : Act) w', b.defers = a.defers → Below w.heap.size w w' → Q (.panic c0) b w') {id : Nat} (m : Nat) (S : List Spec) (hm : P.follows .mixedOrders = true) (hF : freeB l.toArray m none = true) (hT : tailB l.toArray m = true) (hms : m ≤ l.length) (hSm : S.length = m)
    (h : ∀ K : Act → Hyps → Prop, (∀ a' H, (∀ w', Below w.heap.size w w' → (∀ p ∈ H, p.2 w') → wpList P l.toArray Q (l.drop m) a' w') → K a' H) → OblP c0 P l.toArray w 0 S (l.take m) a [] K) : (Code.region id l.toArray true).wp P Q a w :=
  wp_region_any hm (any_looseP S hPn hF hT hms hSm (h _ fun _ _ h => h))

variable {c0 : List PanicEntry} {ops : Array Oper} {w0 : World} {i : Nat} {o : Oper} {r : List Oper} {S : List Spec} {H : Hyps} {K : Act → Hyps → Prop}
theorem OblP.val {v : Value} (hg : Region.wanted o (yielded ops a.tmps) = true)
    (hr : ∀ w, Below w0.heap.size w0 w → (∀ p ∈ H, waits o p.1 = true → p.2 w) → (execOp a.eval o).run P w = .ok (.value v) w) (h : OblP c0 P ops w0 (i + 1) S r (a.put o.dst v) H K) : OblP c0 P ops w0 i (.v v :: S) (o :: r) a H K :=
  ⟨fun w hB hH => .inl ⟨hg, by unfold Oper.wp; rw [hr w hB hH]; exact ⟨v, rfl, rfl, Below.refl _ _⟩⟩, h⟩
theorem OblP.skip (hg : Region.wanted o (yielded ops a.tmps) = false) (h : OblP c0 P ops w0 (i + 1) S r (a.put o.dst undef) H K) : OblP c0 P ops w0 i (.v undef :: S) (o :: r) a H K :=
  ⟨fun _ _ _ => .inr ⟨hg, rfl⟩, h⟩
theorem OblP.call {v : Value} (f : FuncId) (hg : Region.wanted o (yielded ops a.tmps) = true)
    (hr : ∀ w, Below w0.heap.size w0 w → (∀ p ∈ H, waits o p.1 = true → p.2 w) → ∃ args, (execOp a.eval o).run P w = .ok (.enter f args) w ∧ Calls P f args w fun e w' => e = .returned v ∧ Below w.heap.size w w')
    (h : OblP c0 P ops w0 (i + 1) S r (a.put o.dst v) H K) : OblP c0 P ops w0 i (.v v :: S) (o :: r) a H K :=
  ⟨fun w hB hH => .inl ⟨hg, by
    obtain ⟨args, h1, h2⟩ := hr w hB hH
    unfold Oper.wp; rw [h1]
    exact h2.mono fun e w' ⟨he, hb'⟩ => by subst he; exact ⟨v, rfl, rfl, hb'⟩⟩, h⟩
/-- A call whose result is loose. -/
theorem OblP.callR {R : Value → World → Prop} (f : FuncId) (hst : ∀ v w w', R v w → Below w.heap.size w w' → R v w') (hg : Region.wanted o (yielded ops a.tmps) = true)
    (hr : ∀ w, Below w0.heap.size w0 w → (∀ p ∈ H, waits o p.1 = true → p.2 w) → ∃ args, (execOp a.eval o).run P w = .ok (.enter f args) w ∧ Calls P f args w fun e w' => ∃ v, e = .returned v ∧ R v w' ∧ Below w.heap.size w w')
    (h : ∀ v, OblP c0 P ops w0 (i + 1) S r (a.put o.dst v) ((i, R v) :: H) K) : OblP c0 P ops w0 i (.r R :: S) (o :: r) a H K :=
  ⟨hst, fun w hB hH => .inl ⟨hg, by
    obtain ⟨args, h1, h2⟩ := hr w hB hH
    unfold Oper.wp; rw [h1]
    exact h2.mono fun e w' ⟨v, he, hR, hb'⟩ => by subst he; exact ⟨v, rfl, hR, hb'⟩⟩, h⟩
/-- One that makes something. -/
theorem OblP.run {R : Value → World → Prop} (hst : ∀ v w w', R v w → Below w.heap.size w w' → R v w') (hg : Region.wanted o (yielded ops a.tmps) = true)
    (hr : ∀ w, Below w0.heap.size w0 w → (∀ p ∈ H, waits o p.1 = true → p.2 w) → ∃ v w', (execOp a.eval o).run P w = .ok (.value v) w' ∧ R v w' ∧ Below w.heap.size w w')
    (h : ∀ v, OblP c0 P ops w0 (i + 1) S r (a.put o.dst v) ((i, R v) :: H) K) : OblP c0 P ops w0 i (.r R :: S) (o :: r) a H K :=
  ⟨hst, fun w hB hH => .inl ⟨hg, by
    obtain ⟨v, w', h1, h2, h3⟩ := hr w hB hH
    unfold Oper.wp; rw [h1]
    exact ⟨v, rfl, h2, h3⟩⟩, h⟩
theorem OblP.nil (h : K a H) : OblP c0 P ops w0 i [] [] a H K := h
theorem OblP.row (hgd : o.guard = none) (ty : TypeId) (x : Operand) (ho : o.op = .load ty x) (g : Nat) (hx : a.eval x = .pointer (some ⟨g, 0, none⟩)) (t : TypeId) (cs : Array Value) (d : TypeDesc)
    (hh : Has w0 g t cs) (hu : P.underlying ty = some d) (hd : (match d with | .struct _ | .array _ _ => true | _ => false) = true) (hi : (P.info? ty).map (·.size) = some cs.size)
    (h : OblP c0 P ops w0 (i + 1) S r (a.put o.dst (.agg cs)) H K) : OblP c0 P ops w0 i (.v (.agg cs) :: S) (o :: r) a H K := by
  refine ⟨fun w hB hH => .inl ⟨by simp [Region.wanted, hgd], ?_⟩, h⟩
  have hl := run_loadVar_row w g t ty cs (0, 0) d (hh.after hB) hu hd hi
  have hq : (execOp a.eval o).run P w = .ok (.value (.agg cs)) w := by
    unfold execOp
    simp only [ho, hx, Instr.loadAt, Instr.sureAddr, Sem.run_bind, Sem.run_pure, Result.andThen_ok, hl]
  unfold Oper.wp
  rw [hq]
  exact ⟨_, rfl, rfl, Below.refl _ _⟩

/-- What 'alloc' leaves. -/
theorem OblP.makes {t : TypeId} {z : Array Value} (hA : Makes P o t z) (h : ∀ v, OblP c0 P ops w0 (i + 1) S r (a.put o.dst v) ((i, NewR w0 t z v) :: H) K) : OblP c0 P ops w0 i (.r (NewR w0 t z) :: S) (o :: r) a H K :=
  OblP.run NewR.stable (by simp [Region.wanted, hA.guard]) (fun w hB _ => ⟨_, _, hA.run a w, ⟨_, rfl, hB.size, Has.new w t z⟩, newB (Below.refl _ _) _⟩) h
/-- A call that may give up. -/
theorem OblP.callP {R : Value → World → Prop} (f : FuncId) (hst : ∀ v w w', R v w → Below w.heap.size w w' → R v w') (hg : Region.wanted o (yielded ops a.tmps) = true)
    (hr : ∀ w, Below w0.heap.size w0 w → (∀ p ∈ H, waits o p.1 = true → p.2 w) → ∃ args, (execOp a.eval o).run P w = .ok (.enter f args) w ∧ Calls P f args w fun e w' => ((∃ v, e = .returned v ∧ R v w') ∨ e = .panicked c0) ∧ Below w.heap.size w w')
    (h : ∀ v, OblP c0 P ops w0 (i + 1) S r (a.put o.dst v) ((i, R v) :: H) K) : OblP c0 P ops w0 i (.r R :: S) (o :: r) a H K :=
  ⟨hst, fun w hB hH => .inl ⟨hg, by
    obtain ⟨args, h1, h2⟩ := hr w hB hH
    unfold Oper.wp; rw [h1]
    exact h2.mono fun e w' ⟨hor, hb'⟩ => by
      rcases hor with ⟨v, rfl, hR⟩ | rfl
      · exact ⟨v, rfl, hR, hb'⟩
      · exact ⟨rfl, hb'⟩⟩, h⟩
end
end Go.Proofs
namespace Go.Proofs
open Go.RowKit Go.Shelf
attribute [local go_sem ↓] Go.wp_at_zero Go.wp_at_succ

/-- The fate that a word names; 0: none. -/
def fateTo (f : List UInt8) : Nat → Int
  | 0 => 0
  | k + 1 => if f = wordF ((k : Int) + 1) then (k : Int) + 1 else fateTo f k
def fateW (f : List UInt8) : Int := fateTo f 3
theorem fateTo_bd (f : List UInt8) : ∀ k, 0 ≤ fateTo f k ∧ fateTo f k ≤ k
  | 0 => by simp [fateTo]
  | k + 1 => by
    have := fateTo_bd f k
    simp only [fateTo]
    split
    · omega
    · omega

def persE (a b f : List UInt8) : Ending := if fateW f = 0 then .panicked noSeason else .returned (.agg #[.int .i64 (numV a), .int .i64 (numV b), .int .i64 (fateW f)])

set_option maxHeartbeats 2000000 in
/-- A person's words: two numbers, and what the third names. -/
theorem person_ok (A : Option Addr) (c : Nat) (a b f : List UInt8) (ha : wordB a = true) (hb : wordB b = true) (_ : 3 ≤ c) (w : World) (hs : SlOf strC 1 w A 3 [a, b, f]) :
    Calls Tryz.prog 167 #[.slice A 3 c] w fun e w' => e = persE a b f ∧ Below w.heap.size w w' := by
  obtain ⟨q, o, rfl⟩ := hs.addr (by omega)
  have HA := Lib.hid fun (W : World) => number_c a ha W
  have HB := Lib.hid fun (W : World) => number_c b hb W
  have C0 := Lib.hid fun (W : World) (hb : Below w.heap.size w W) => (by have := (hs.keep hb).range strC_len (k := 0) rfl 0 _ rfl; simpa using this : W.cell? ⟨q, o, none⟩ = some (.string (bs a)))
  have C1 := Lib.hid fun (W : World) (hb : Below w.heap.size w W) => (by have := (hs.keep hb).range strC_len (k := 1) rfl 0 _ rfl; simpa using this : W.cell? ⟨q, o + 1, none⟩ = some (.string (bs b)))
  have C2 := Lib.hid fun (W : World) (hb : Below w.heap.size w W) => (by have := (hs.keep hb).range strC_len (k := 2) rfl 0 _ rfl; simpa using this : W.cell? ⟨q, o + 2, none⟩ = some (.string (bs f)))
  obtain ⟨w1, hw1⟩ : ∃ w1, w1 = w.alloc (.cells #[.int .i64 0, .int .i64 0, .int .i64 0] 49) := ⟨_, rfl⟩
  have B1 := Lib.hid (show Below w.heap.size w w1 from by rw [hw1]; exact newB (Below.refl _ _) _)
  have F1 := Lib.hid (show Has w1 w.heap.size 49 #[.int .i64 0, .int .i64 0, .int .i64 0] from by rw [hw1]; exact Has.new w 49 _)
  have HW := Lib.hid hw1
  clear hs ha hb hw1
  go_enter Tryz.func167, Tryz.ntmps167
  go_wp2
  rw [← HW.out]
  clear HW
  apply wp_loose 10 [.v _, .v _, .v _, .v _, .v _, .v _, .v _, .v _, .v _, .r (NewR w1 49 #[.int .i64 0, .int .i64 0, .int .i64 0])] (by kernel_rfl) (by kernel_rfl) (by kernel_rfl) (by decide) rfl
  intro K hK
  apply OblS.val rfl
  · intro w' hb _; go_simp; rfl
  apply OblS.val rfl
  · intro w' hb _; go_simp; rfl
  apply OblS.val rfl
  · intro w' hb _; have := C0.out w' (nextB B1.out hb); go_simp; rfl
  apply OblS.call (v := .int .i64 (numV a)) 181 rfl
  · intro w' hb _; apply Exists.intro; apply And.intro; (go_simp; rfl); exact HA.out w'
  apply OblS.val rfl
  · intro w' hb _; go_simp; rfl
  apply OblS.val rfl
  · intro w' hb _; go_simp; rfl
  apply OblS.val rfl
  · intro w' hb _; have := C1.out w' (nextB B1.out hb); go_simp; rfl
  apply OblS.call (v := .int .i64 (numV b)) 181 rfl
  · intro w' hb _; apply Exists.intro; apply And.intro; (go_simp; rfl); exact HB.out w'
  apply OblS.val (v := .agg #[.int .i64 (numV a), .int .i64 (numV b), .int .i64 0]) rfl
  · intro w' hb _; go_simp
  apply OblS.makes ⟨rfl, fun a w => by kernel_rfl⟩
  intro v9
  apply OblS.nil
  apply hK
  intro w2 hb hH
  obtain ⟨g, rfl, hg, hq⟩ := hH _ (List.mem_cons_self ..)
  have F2 := Lib.hid (F1.out.after hb)
  have G2 := Lib.hid hq
  have B2 := Lib.hid (nextB B1.out hb)
  have hgw : w.heap.size < g := Nat.lt_of_lt_of_le F1.out.lt hg
  clear hH hK K hq hb hg
  simp only [Act.put, List.setIfInBounds_toArray, List.set_cons_zero, List.set_cons_succ, List.drop_succ_cons, List.drop_zero]
  go_wp2_with (refine wpList_store_all rfl 49 _ _ rfl g rfl _ rfl 49 _ G2.out (by kernel_rfl) rfl (by simp [Value.oneCell']) ?_)
  have hgl := G2.out.lt
  have F3 := Lib.hid ((F2.out.setRow_far (by omega) #[.int .i64 (numV a), .int .i64 (numV b), .int .i64 0]).after (newB (Below.refl (w2.setRow g #[.int .i64 (numV a), .int .i64 (numV b), .int .i64 0]).heap.size _) (.cells #[.int .i64 1, .int .i64 2, .int .i64 3] 47)))
  have G3 := Lib.hid ((G2.out.setRow #[.int .i64 (numV a), .int .i64 (numV b), .int .i64 0]).after (newB (Below.refl (w2.setRow g #[.int .i64 (numV a), .int .i64 (numV b), .int .i64 0]).heap.size _) (.cells #[.int .i64 1, .int .i64 2, .int .i64 3] 47)))
  have B3 := Lib.hid (newB (rowB B2.out (by omega : w.heap.size ≤ g) #[.int .i64 (numV a), .int .i64 (numV b), .int .i64 0]) (.cells #[.int .i64 1, .int .i64 2, .int .i64 3] 47))
  have K3 := Lib.hid (show Has ((w2.setRow g #[.int .i64 (numV a), .int .i64 (numV b), .int .i64 0]).alloc (.cells #[.int .i64 1, .int .i64 2, .int .i64 3] 47)) w2.heap.size 47 #[.int .i64 1, .int .i64 2, .int .i64 3] from Has.new' _ 47 _ (by simp))
  generalize (w2.setRow g #[.int .i64 (numV a), .int .i64 (numV b), .int .i64 0]).alloc (.cells #[.int .i64 1, .int .i64 2, .int .i64 3] 47) = w3 at *
  go_loopw [17] (fun v wr => ∃ k : Nat, k ≤ 3 ∧ v = .int .i64 k ∧ Has wr w.heap.size 49 #[.int .i64 0, .int .i64 0, .int .i64 0] ∧ Has wr g 49 #[.int .i64 (numV a), .int .i64 (numV b), .int .i64 (fateTo f k)] ∧ Has wr w2.heap.size 47 #[.int .i64 1, .int .i64 2, .int .i64 3] ∧ Below w.heap.size w wr) (fun v _ => 3 - (intOf v).toNat)
  case atStart => exact ⟨0, by omega, rfl, F3.out, G3.out, K3.out, B3.out⟩
  case round =>
    obtain ⟨k, hk, rfl, hF, hG, hK, hB⟩ := hrel
    have HF := Lib.hid hF; have HG := Lib.hid hG; have HK := Lib.hid hK; have HBw := Lib.hid hB
    clear hF hG hK hB F3 G3 K3 B3 F2 G2 B2
    by_cases hk3 : k < 3
    · have hki : (k : Int) < 3 := by omega
      have ck : wr.cell? ⟨w2.heap.size, k, none⟩ = some (.int .i64 ((k : Int) + 1)) := by
        rw [HK.out.cell]
        match k, hk3 with
        | 0, _ => rfl
        | 1, _ => rfl
        | 2, _ => rfl
      have HWo := Lib.hid fun (W : World) => wordOf_c ((k : Int) + 1) (by omega) W
      have HT := Lib.hid (show fateTo f (k + 1) = if f = wordF ((k : Int) + 1) then (k : Int) + 1 else fateTo f k from rfl)
      go_wp2
      by_cases hm : f = wordF ((k : Int) + 1)
      · have heq : ((bs f).toList == (bs (wordF ((k : Int) + 1))).toList) = true := by rw [hm]; exact beq_self_eq_true _
        rw [if_pos hm] at HT
        apply wp_loose 6 [.v _, .v _, .v _, .v _, .v _, .v (.bool true)] (by kernel_rfl) (by kernel_rfl) (by kernel_rfl) (by decide) rfl
        intro K hK
        apply OblS.val rfl
        · intro w' hb _; go_simp; rfl
        apply OblS.val rfl
        · intro w' hb _; go_simp; rfl
        apply OblS.val rfl
        · intro w' hb _; have := C2.out w' (nextB HBw.out hb); go_simp; rfl
        apply OblS.val rfl
        · intro w' hb _; go_simp; rfl
        apply OblS.call (v := .string (bs (wordF ((k : Int) + 1)))) 162 rfl
        · intro w' hb _; apply Exists.intro; apply And.intro; (go_simp; rfl); exact HWo.out w'
        apply OblS.val rfl
        · intro w' hb _; go_simp
        apply OblS.nil
        apply hK
        intro w4 hb hH
        have F4 := Lib.hid (HF.out.after hb); have G4 := Lib.hid (HG.out.after hb); have K4 := Lib.hid (HK.out.after hb); have B4 := Lib.hid (nextB HBw.out hb)
        have cg := G4.out.cell; have fg := G4.out.frozen
        clear hH hK K hb
        simp only [Act.put, List.setIfInBounds_toArray, List.set_cons_zero, List.set_cons_succ, List.drop_succ_cons, List.drop_zero]
        go_wp2
        go_roundw
        case rel =>
          refine ⟨k + 1, by omega, by go_num, F4.out.far (by show w.heap.size ≠ g; omega) _, ?_, K4.out.far (by show w2.heap.size ≠ g; omega) _, setB B4.out (by show w.heap.size ≤ g; omega) _⟩
          rw [HT.out]; exact G4.out.set 2 _
        case measure => first | (simp [intOf]; done) | (simp [intOf]; omega)
      · have heq : ((bs f).toList == (bs (wordF ((k : Int) + 1))).toList) = false := by
          rw [beq_eq_false_iff_ne, ByteArray.toList_eq, ByteArray.toList_eq, bs_list, bs_list]; exact hm
        rw [if_neg hm] at HT
        apply wp_loose 6 [.v _, .v _, .v _, .v _, .v _, .v (.bool false)] (by kernel_rfl) (by kernel_rfl) (by kernel_rfl) (by decide) rfl
        intro K hK
        apply OblS.val rfl
        · intro w' hb _; go_simp; rfl
        apply OblS.val rfl
        · intro w' hb _; go_simp; rfl
        apply OblS.val rfl
        · intro w' hb _; have := C2.out w' (nextB HBw.out hb); go_simp; rfl
        apply OblS.val rfl
        · intro w' hb _; go_simp; rfl
        apply OblS.call (v := .string (bs (wordF ((k : Int) + 1)))) 162 rfl
        · intro w' hb _; apply Exists.intro; apply And.intro; (go_simp; rfl); exact HWo.out w'
        apply OblS.val rfl
        · intro w' hb _; go_simp
        apply OblS.nil
        apply hK
        intro w4 hb hH
        have F4 := Lib.hid (HF.out.after hb); have G4 := Lib.hid (HG.out.after hb); have K4 := Lib.hid (HK.out.after hb); have B4 := Lib.hid (nextB HBw.out hb)
        clear hH hK K hb
        simp only [Act.put, List.setIfInBounds_toArray, List.set_cons_zero, List.set_cons_succ, List.drop_succ_cons, List.drop_zero]
        go_wp2
        go_roundw
        case rel => exact ⟨k + 1, by omega, by go_num, F4.out, by rw [HT.out]; exact G4.out, K4.out, B4.out⟩
        case measure => first | (simp [intOf]; done) | (simp [intOf]; omega)
    · have hke : k = 3 := by omega
      subst hke
      have cg := HG.out.cell; have cf := HF.out.frozen
      have hfb := fateTo_bd f 3
      have HFW := Lib.hid (show persE a b f = if fateTo f 3 = 0 then .panicked noSeason else .returned (.agg #[.int .i64 (numV a), .int .i64 (numV b), .int .i64 (fateTo f 3)]) from rfl)
      generalize fateTo f 3 = ft at *
      have HFa := Lib.hid fun (W : World) => fateOf_c ft W
      by_cases h0 : ft = 0
      · subst h0
        rw [if_pos rfl] at HFW
        go_wp2_with (go_at_call 135; refine (HFa.out _).mono ?_; rintro e w5 ⟨rfl, rfl⟩; rw [show fateV 0 = .nilIface from rfl])
        exact ⟨rfl, HFW.out.symm, HBw.out⟩
      · rw [if_neg h0] at HFW
        have h3 : ft = 1 ∨ ft = 2 ∨ ft = 3 := by omega
        obtain ⟨ty, hty⟩ : ∃ ty, fateV ft = .iface ty (.agg #[]) := by
          rcases h3 with rfl | rfl | rfl
          · exact ⟨181, rfl⟩
          · exact ⟨182, rfl⟩
          · exact ⟨183, rfl⟩
        have HTy := Lib.hid hty
        clear h3 h0 hty
        go_wp2_with (first
          | (go_at_call 135; refine (HFa.out _).mono ?_; rintro e w5 ⟨rfl, rfl⟩; rw [HTy.out])
          | (refine wpList_load_row rfl 49 _ rfl g rfl 49 _ (0, 0) _ HG.out Tryz.underlying49 rfl (by kernel_rfl) ?_)
          | (refine wpList_store_all rfl 49 _ _ rfl w.heap.size rfl _ rfl 49 _ HF.out (by kernel_rfl) rfl (by simp [Value.oneCell']) ?_))
        exact bodyPost_ret (results_cell_row Tryz.results167 _ _ w.heap.size 49 _ (0, 0) _ rfl (HF.out.setRow _) Tryz.underlying49 rfl (by kernel_rfl)) rfl ⟨HFW.out.symm, rowB HBw.out (by omega) _⟩
end Go.Proofs
namespace Go.Proofs
open Go.RowKit Go.Shelf
attribute [local go_sem ↓] Go.wp_at_zero Go.wp_at_succ

theorem number_any (l : List UInt8) (hs : l.length ≤ 1000000) (w : World) : Calls Tryz.prog 181 #[.string (bs l)] w fun e w' => ((∃ v, e = .returned v ∧ (v = .int .i64 (numV l) ∧ wordB l = true)) ∨ e = .panicked noSeason) ∧ Below w.heap.size w w' := by
  cases h : wordB l
  · exact (number_p l h hs w).mono fun e w' ⟨h1, h2⟩ => ⟨.inr h1, h2⟩
  · exact (number_c l h w).mono fun e w' ⟨h1, h2⟩ => ⟨.inl ⟨_, h1, rfl, rfl⟩, h2⟩

set_option maxHeartbeats 2000000 in
/-- A person's words of which one of the first two is no number. -/
theorem person_p (A : Option Addr) (c : Nat) (a b f : List UInt8) (hab : (wordB a && wordB b) = false) (hla : a.length ≤ 1000000) (hlb : b.length ≤ 1000000) (_ : 3 ≤ c) (w : World) (hs : SlOf strC 1 w A 3 [a, b, f]) :
    Calls Tryz.prog 167 #[.slice A 3 c] w fun e w' => e = .panicked noSeason ∧ Below w.heap.size w w' := by
  obtain ⟨q, o, rfl⟩ := hs.addr (by omega)
  have HA := Lib.hid fun (W : World) => number_any a hla W
  have HB := Lib.hid fun (W : World) => number_any b hlb W
  have C0 := Lib.hid fun (W : World) (hb : Below w.heap.size w W) => (by have := (hs.keep hb).range strC_len (k := 0) rfl 0 _ rfl; simpa using this : W.cell? ⟨q, o, none⟩ = some (.string (bs a)))
  have C1 := Lib.hid fun (W : World) (hb : Below w.heap.size w W) => (by have := (hs.keep hb).range strC_len (k := 1) rfl 0 _ rfl; simpa using this : W.cell? ⟨q, o + 1, none⟩ = some (.string (bs b)))
  obtain ⟨w1, hw1⟩ : ∃ w1, w1 = w.alloc (.cells #[.int .i64 0, .int .i64 0, .int .i64 0] 49) := ⟨_, rfl⟩
  have B1 := Lib.hid (show Below w.heap.size w w1 from by rw [hw1]; exact newB (Below.refl _ _) _)
  have HW := Lib.hid hw1
  have HAB := Lib.hid hab
  clear hs hw1 hab
  go_enter Tryz.func167, Tryz.ntmps167
  go_wp2
  rw [← HW.out]
  clear HW
  apply wp_looseP (c0 := noSeason) ?pan 10 [.v _, .v _, .v _, .r (fun v _ => v = .int .i64 (numV a) ∧ wordB a = true), .v _, .v _, .v _, .r (fun v _ => v = .int .i64 (numV b) ∧ wordB b = true), .r (fun _ _ => True), .r (NewR w1 49 #[.int .i64 0, .int .i64 0, .int .i64 0])] (by kernel_rfl) (by kernel_rfl) (by kernel_rfl) (by decide) rfl
  case pan =>
    intro b' w' hd hb
    exact ⟨hd, rfl, nextB B1.out hb⟩
  intro K hK
  apply OblP.val rfl
  · intro w' hb _; go_simp; rfl
  apply OblP.val rfl
  · intro w' hb _; go_simp; rfl
  apply OblP.val rfl
  · intro w' hb _; have := C0.out w' (nextB B1.out hb); go_simp; rfl
  apply OblP.callP 181 (fun _ _ _ h _ => h) rfl
  · intro w' hb _; apply Exists.intro; apply And.intro; (go_simp; rfl); exact HA.out w'
  intro v3
  apply OblP.val rfl
  · intro w' hb _; go_simp; rfl
  apply OblP.val rfl
  · intro w' hb _; go_simp; rfl
  apply OblP.val rfl
  · intro w' hb _; have := C1.out w' (nextB B1.out hb); go_simp; rfl
  apply OblP.callP 181 (fun _ _ _ h _ => h) rfl
  · intro w' hb _; apply Exists.intro; apply And.intro; (go_simp; rfl); exact HB.out w'
  intro v7
  apply OblP.run (fun _ _ _ h _ => h) rfl
  · intro w' hb hH
    obtain ⟨rfl, _⟩ := hH (7, _) (List.mem_cons_self ..) (by kernel_rfl)
    obtain ⟨rfl, _⟩ := hH (3, _) (List.mem_cons_of_mem _ (List.mem_cons_self ..)) (by kernel_rfl)
    exact ⟨.agg #[.int .i64 (numV a), .int .i64 (numV b), .int .i64 0], w', (by go_simp), trivial, Below.refl _ _⟩
  intro v8
  apply OblP.makes ⟨rfl, fun a w => by kernel_rfl⟩
  intro v9
  apply OblP.nil
  apply hK
  intro w2 hb hH
  exfalso
  have h7 := (hH (7, _) (List.mem_cons_of_mem _ (List.mem_cons_of_mem _ (List.mem_cons_self ..)))).2
  have h3 := (hH (3, _) (List.mem_cons_of_mem _ (List.mem_cons_of_mem _ (List.mem_cons_of_mem _ (List.mem_cons_self ..))))).2
  have := HAB.out
  rw [h7, h3] at this
  cases this
end Go.Proofs
namespace Go.Proofs
open Go.RowKit Go.Shelf
attribute [local go_sem ↓] Go.wp_at_zero Go.wp_at_succ

theorem set_keyT : ∀ n : Fin 1024, ∀ k : Fin 10, IntKind.i64.wrap (((BitVec.ofInt 64 ((n : Nat) : Int) ||| BitVec.ofInt 64 (2 ^ (k : Nat))).toNat : Nat) : Int) = setN ((n : Nat) : Int) k ∧ 0 ≤ setN ((n : Nat) : Int) k ∧ setN ((n : Nat) : Int) k < 1024 := by decide +kernel
theorem set_bitsT {x : Int} {k : Nat} (h0 : 0 ≤ x) (h1 : x < 1024) (hk : k < 10) : Op.intBits .or .i64 x (2 ^ k) = (pure (.int .i64 (setN x k)) : Sem Value) := by
  obtain ⟨n, rfl⟩ : ∃ n : Nat, x = n := ⟨x.toNat, by omega⟩
  have := (set_keyT ⟨n, by omega⟩ ⟨k, hk⟩).1
  show (pure (Value.int .i64 (IntKind.i64.wrap (((BitVec.ofInt 64 (n : Int) ||| BitVec.ofInt 64 (2 ^ k)).toNat : Nat) : Int))) : Sem Value) = _
  rw [this]
theorem set_rngT {x : Int} {k : Nat} (h0 : 0 ≤ x) (h1 : x < 1024) (hk : k < 10) : 0 ≤ setN x k ∧ setN x k < 1024 := by
  obtain ⟨n, rfl⟩ : ∃ n : Nat, x = n := ⟨x.toNat, by omega⟩
  exact (set_keyT ⟨n, by omega⟩ ⟨k, hk⟩).2
/-- The set of some numbers. -/
def orL (s : Int) (ks : List Int) : Int := ks.foldl (fun s k => setN s k.toNat) s
theorem orL_snoc (s : Int) (ks : List Int) (k : Int) : orL s (ks ++ [k]) = setN (orL s ks) k.toNat := by simp [orL]
theorem orL_bd : ∀ (ks : List Int) (s : Int), 0 ≤ s → s < 1024 → (∀ k ∈ ks, 0 ≤ k ∧ k ≤ 9) → 0 ≤ orL s ks ∧ orL s ks < 1024
  | [], s, h0, h1, _ => ⟨h0, h1⟩
  | k :: r, s, h0, h1, h => by
    have hk := h k (List.mem_cons_self ..)
    obtain ⟨a, b⟩ := set_rngT (x := s) (k := k.toNat) h0 h1 (by omega)
    exact orL_bd r _ a b fun x hx => h x (List.mem_cons_of_mem _ hx)
end Go.Proofs
namespace Go.Proofs
open Go.RowKit Go.Shelf
attribute [local go_sem ↓] Go.wp_at_zero Go.wp_at_succ

/-- A word that names somebody. -/
def whoB (l : List UInt8) : Bool := wordB l && decide (numV l ≤ 9)

set_option maxHeartbeats 2000000 in
/-- A landing's words. -/
theorem landing_ok1 (A : Option Addr) (m d : Nat) (a b : List UInt8) (r : List (List UInt8)) (ha : wordB a = true) (hb : wordB b = true) (hr : r.all whoB = true) (hm : m ≤ 100000) (hc : m ≤ d) (hd : ¬ d = 0) (w : World) (hs : SlOf strC 1 w A (m + 2) (a :: b :: r)) :
    Calls Tryz.prog 168 #[.slice A (m + 2) (d + 2)] w fun e w' => e = .returned (.agg #[.int .i64 (numV a), .int .i64 (numV b), .int .i64 (orL 0 (r.map numV))]) ∧ Below w.heap.size w w' := by
  obtain ⟨q, o, rfl⟩ := hs.addr (by omega)
  have hrm : r.length = m := by have := hs.1; simpa using this
  have HA := Lib.hid fun (W : World) => number_c a ha W
  have HB := Lib.hid fun (W : World) => number_c b hb W
  have HS := Lib.hid hs
  have C0 := Lib.hid fun (W : World) (hb : Below w.heap.size w W) => (by have := (hs.keep hb).range strC_len (k := 0) rfl 0 _ rfl; simpa using this : W.cell? ⟨q, o, none⟩ = some (.string (bs a)))
  have C1 := Lib.hid fun (W : World) (hb : Below w.heap.size w W) => (by have := (hs.keep hb).range strC_len (k := 1) rfl 0 _ rfl; simpa using this : W.cell? ⟨q, o + 1, none⟩ = some (.string (bs b)))
  obtain ⟨w1, hw1⟩ : ∃ w1, w1 = w.alloc (.cells #[.int .i64 0, .int .i64 0, .int .i64 0] 44) := ⟨_, rfl⟩
  have B1 := Lib.hid (show Below w.heap.size w w1 from by rw [hw1]; exact newB (Below.refl _ _) _)
  have F1 := Lib.hid (show Has w1 w.heap.size 44 #[.int .i64 0, .int .i64 0, .int .i64 0] from by rw [hw1]; exact Has.new w 44 _)
  have HW := Lib.hid hw1
  have HR := Lib.hid hr; have HRM := Lib.hid hrm
  have i1 : (0 : Int) < (m : Int) + 2 := by omega
  have i2 : (1 : Int) < (m : Int) + 2 := by omega
  have i3 : (2 : Int) ≤ (m : Int) + 2 := by omega
  have i4 : (m : Int) + 2 ≤ (d : Int) + 2 := by omega
  clear hs ha hb hw1 hr hrm
  go_enter Tryz.func168, Tryz.ntmps168
  go_wp2
  rw [← HW.out]
  clear HW
  apply wp_loose 10 [.v _, .v _, .v _, .v _, .v _, .v _, .v _, .v _, .v _, .r (NewR w1 44 #[.int .i64 0, .int .i64 0, .int .i64 0])] (by kernel_rfl) (by kernel_rfl) (by kernel_rfl) (by decide) rfl
  intro K hK
  apply OblS.val rfl
  · intro w' hb _; go_simp; rfl
  apply OblS.val rfl
  · intro w' hb _; go_simp; rfl
  apply OblS.val rfl
  · intro w' hb _; have := C0.out w' (nextB B1.out hb); go_simp; rfl
  apply OblS.call (v := .int .i64 (numV a)) 181 rfl
  · intro w' hb _; apply Exists.intro; apply And.intro; (go_simp; rfl); exact HA.out w'
  apply OblS.val rfl
  · intro w' hb _; go_simp; rfl
  apply OblS.val rfl
  · intro w' hb _; go_simp; rfl
  apply OblS.val rfl
  · intro w' hb _; have := C1.out w' (nextB B1.out hb); go_simp; rfl
  apply OblS.call (v := .int .i64 (numV b)) 181 rfl
  · intro w' hb _; apply Exists.intro; apply And.intro; (go_simp; rfl); exact HB.out w'
  apply OblS.val (v := .agg #[.int .i64 (numV a), .int .i64 (numV b), .int .i64 0]) rfl
  · intro w' hb _; go_simp
  apply OblS.makes ⟨rfl, fun a w => by kernel_rfl⟩
  intro v9
  apply OblS.nil
  apply hK
  intro w2 hb hH
  obtain ⟨g, rfl, hg, hq⟩ := hH _ (List.mem_cons_self ..)
  have F2 := Lib.hid (F1.out.after hb)
  have G2 := Lib.hid hq
  have B2 := Lib.hid (nextB B1.out hb)
  have hgw : w.heap.size < g := Nat.lt_of_lt_of_le F1.out.lt hg
  clear hH hK K hq hb hg
  simp only [Act.put, List.setIfInBounds_toArray, List.set_cons_zero, List.set_cons_succ, List.drop_succ_cons, List.drop_zero]
  go_wp2_with (refine wpList_store_all rfl 44 _ _ rfl g rfl _ rfl 44 _ G2.out (by kernel_rfl) rfl (by simp [Value.oneCell']) ?_)
  have hgl := G2.out.lt
  have F3 := Lib.hid (F2.out.setRow_far (show w.heap.size ≠ g by omega) #[.int .i64 (numV a), .int .i64 (numV b), .int .i64 0])
  have G3 := Lib.hid (G2.out.setRow #[.int .i64 (numV a), .int .i64 (numV b), .int .i64 0])
  have B3 := Lib.hid (rowB B2.out (by omega : w.heap.size ≤ g) #[.int .i64 (numV a), .int .i64 (numV b), .int .i64 0])
  clear i1 i2 i3 i4 F2 G2 B2
  have HT := Lib.hid (show SlOf strC 1 w (some ⟨q, o + 2, none⟩) m r by
    have := HS.out.drop strC_len (l := 2) (by omega) (by omega : m + 2 ≤ d + 2)
    rw [if_neg (show ¬ d + 2 = 2 by omega)] at this
    simpa [Addr.add] using this)
  generalize w2.setRow g #[.int .i64 (numV a), .int .i64 (numV b), .int .i64 0] = w3 at *
  go_loopw [19] (fun v wr => ∃ k : Nat, k ≤ m ∧ v = .int .i64 k ∧ Has wr w.heap.size 44 #[.int .i64 0, .int .i64 0, .int .i64 0] ∧ Has wr g 44 #[.int .i64 (numV a), .int .i64 (numV b), .int .i64 (orL 0 ((r.take k).map numV))] ∧ Below w.heap.size w wr) (fun v _ => m - (intOf v).toNat)
  case atStart => exact ⟨0, by omega, rfl, F3.out, G3.out, B3.out⟩
  case round =>
    obtain ⟨k, hk, rfl, hF, hG, hB⟩ := hrel
    have HF := Lib.hid hF; have HG := Lib.hid hG; have HBw := Lib.hid hB
    clear hF hG hB F3 G3 B3
    by_cases hkm : k < m
    · have hkl : k < r.length := by rw [HRM.out]; exact hkm
      have hx := List.getElem?_eq_getElem hkl
      have HTk := Lib.hid (List.take_append_getElem hkl)
      obtain ⟨x, hxx⟩ : ∃ x, x = r[k] := ⟨_, rfl⟩
      rw [← hxx] at hx HTk
      have hwx := List.all_eq_true.1 HR.out x (List.mem_of_getElem? hx)
      simp only [whoB, Bool.and_eq_true, decide_eq_true_eq] at hwx
      have cx : wr.cell? ⟨q, o + 2 + k, none⟩ = some (.string (bs x)) := by
        have := ((HT.out.keep HBw.out).range strC_len hx) 0 _ rfl
        simpa using this
      have HNx := Lib.hid fun (W : World) => number_c x hwx.1 W
      obtain ⟨t, ht⟩ : ∃ t : Nat, numV x = t := ⟨(numV x).toNat, by have := (numV_bd hwx.1).1; omega⟩
      have HO := Lib.hid (show orL 0 ((r.take (k + 1)).map numV) = setN (orL 0 ((r.take k).map numV)) t by
        rw [← HTk.out, List.map_append, List.map_cons, List.map_nil, orL_snoc, ht]; rfl)
      have hob := orL_bd ((r.take k).map numV) 0 (by omega) (by omega) (fun y hy => by
        obtain ⟨z, hz, rfl⟩ := List.mem_map.1 hy
        have h := List.all_eq_true.1 HR.out z (List.mem_of_mem_take hz)
        simp only [whoB, Bool.and_eq_true, decide_eq_true_eq] at h
        exact ⟨(numV_bd h.1).1, h.2⟩)
      rw [ht] at HNx
      have ht9 : t < 10 := by have := hwx.2; omega
      have hcb := set_bitsT hob.1 hob.2 ht9
      generalize orL 0 ((r.take k).map numV) = s at *
      have ht9' : ¬ (9 : Int) < (t : Int) := by omega
      have ht9'' : ¬ 9 < t := by omega
      have hp2 : (1 : Int) ≤ 2 ^ t ∧ (2 : Int) ^ t ≤ 512 := by
        have e : ((2 ^ t : Nat) : Int) = (2 : Int) ^ t := by push_cast; rfl
        have h1 : (2 : Nat) ^ t ≤ 2 ^ 9 := Nat.pow_le_pow_right (by omega) (by omega)
        have h2 : 0 < (2 : Nat) ^ t := Nat.pow_pos (by omega)
        omega
      clear hx hxx hwx ht
      go_wp2_with (go_at_call 181; refine (HNx.out _).mono ?_; rintro e w5 ⟨rfl, hb⟩; have F5 := Lib.hid (HF.out.after hb); have G5 := Lib.hid (HG.out.after hb); have B5 := Lib.hid (nextB HBw.out hb); clear hb)
      refine wp_free 6 (by kernel_rfl) (by kernel_rfl) (by kernel_rfl) (by decide) ?_
      intro K hK
      iterate 3 (apply Obl.val (by decide) (by kernel_rfl); (intro w' hb; have := (G5.out.after hb).cell; go_simp; rfl))
      apply Obl.val (v := .int .i64 (2 ^ t)) (by decide) (by kernel_rfl)
      · intro w' hb; go_simp; rw [IntKind.wrap_i64]; omega
      apply Obl.val (v := .int .i64 (setN s t)) (by decide) (by kernel_rfl)
      · intro w' hb; go_simp
      apply Obl.val (by decide) (by kernel_rfl)
      · intro w' hb; go_simp; rfl
      apply Obl.nil
      apply hK
      intro w6 hb
      simp only [Act.put, List.setIfInBounds_toArray, List.set_cons_zero, List.set_cons_succ, List.drop_succ_cons, List.drop_zero]
      clear hK K
      have F6 := Lib.hid (F5.out.after hb); have G6 := Lib.hid (G5.out.after hb); have B6 := Lib.hid (nextB B5.out hb)
      have cg := G6.out.cell; have fg := G6.out.frozen
      clear hb
      go_wp2
      go_roundw
      case rel =>
        refine ⟨k + 1, by omega, by go_num, F6.out.far (by show w.heap.size ≠ g; omega) _, ?_, setB B6.out (by show w.heap.size ≤ g; omega) _⟩
        rw [HO.out]; exact G6.out.set 2 _
      case measure => first | (simp [intOf]; done) | (simp [intOf]; omega)
    · have hke : k = m := by omega
      subst hke
      have HE := Lib.hid (show r.take k = r from List.take_of_length_le (by rw [HRM.out]; exact Nat.le_refl _))
      rw [HE.out] at HG
      have cg := HG.out.cell; have cf := HF.out.frozen
      go_wp2_with (first
        | (refine wpList_load_row rfl 44 _ rfl g rfl 44 _ (0, 0) _ HG.out Tryz.underlying44 rfl (by kernel_rfl) ?_)
        | (refine wpList_store_all rfl 44 _ _ rfl w.heap.size rfl _ rfl 44 _ HF.out (by kernel_rfl) rfl (by simp [Value.oneCell']) ?_))
      exact bodyPost_ret (results_cell_row Tryz.results168 _ _ w.heap.size 44 _ (0, 0) _ rfl (HF.out.setRow _) Tryz.underlying44 rfl (by kernel_rfl)) rfl ⟨rfl, rowB HBw.out (by omega) _⟩
end Go.Proofs
namespace Go.Proofs
open Go.RowKit Go.Shelf
attribute [local go_sem ↓] Go.wp_at_zero Go.wp_at_succ

set_option maxHeartbeats 2000000 in
/-- A landing's words. -/
theorem landing_ok0 (A : Option Addr) (a b : List UInt8) (ha : wordB a = true) (hb : wordB b = true) (w : World) (hs : SlOf strC 1 w A 2 [a, b]) :
    Calls Tryz.prog 168 #[.slice A 2 2] w fun e w' => e = .returned (.agg #[.int .i64 (numV a), .int .i64 (numV b), .int .i64 (0)]) ∧ Below w.heap.size w w' := by
  obtain ⟨q, o, rfl⟩ := hs.addr (by omega)
  have HA := Lib.hid fun (W : World) => number_c a ha W
  have HB := Lib.hid fun (W : World) => number_c b hb W
  have HS := Lib.hid hs
  have C0 := Lib.hid fun (W : World) (hb : Below w.heap.size w W) => (by have := (hs.keep hb).range strC_len (k := 0) rfl 0 _ rfl; simpa using this : W.cell? ⟨q, o, none⟩ = some (.string (bs a)))
  have C1 := Lib.hid fun (W : World) (hb : Below w.heap.size w W) => (by have := (hs.keep hb).range strC_len (k := 1) rfl 0 _ rfl; simpa using this : W.cell? ⟨q, o + 1, none⟩ = some (.string (bs b)))
  obtain ⟨w1, hw1⟩ : ∃ w1, w1 = w.alloc (.cells #[.int .i64 0, .int .i64 0, .int .i64 0] 44) := ⟨_, rfl⟩
  have B1 := Lib.hid (show Below w.heap.size w w1 from by rw [hw1]; exact newB (Below.refl _ _) _)
  have F1 := Lib.hid (show Has w1 w.heap.size 44 #[.int .i64 0, .int .i64 0, .int .i64 0] from by rw [hw1]; exact Has.new w 44 _)
  have HW := Lib.hid hw1
  clear hs ha hb hw1
  go_enter Tryz.func168, Tryz.ntmps168
  go_wp2
  rw [← HW.out]
  clear HW
  apply wp_loose 10 [.v _, .v _, .v _, .v _, .v _, .v _, .v _, .v _, .v _, .r (NewR w1 44 #[.int .i64 0, .int .i64 0, .int .i64 0])] (by kernel_rfl) (by kernel_rfl) (by kernel_rfl) (by decide) rfl
  intro K hK
  apply OblS.val rfl
  · intro w' hb _; go_simp; rfl
  apply OblS.val rfl
  · intro w' hb _; go_simp; rfl
  apply OblS.val rfl
  · intro w' hb _; have := C0.out w' (nextB B1.out hb); go_simp; rfl
  apply OblS.call (v := .int .i64 (numV a)) 181 rfl
  · intro w' hb _; apply Exists.intro; apply And.intro; (go_simp; rfl); exact HA.out w'
  apply OblS.val rfl
  · intro w' hb _; go_simp; rfl
  apply OblS.val rfl
  · intro w' hb _; go_simp; rfl
  apply OblS.val rfl
  · intro w' hb _; have := C1.out w' (nextB B1.out hb); go_simp; rfl
  apply OblS.call (v := .int .i64 (numV b)) 181 rfl
  · intro w' hb _; apply Exists.intro; apply And.intro; (go_simp; rfl); exact HB.out w'
  apply OblS.val (v := .agg #[.int .i64 (numV a), .int .i64 (numV b), .int .i64 0]) rfl
  · intro w' hb _; go_simp
  apply OblS.makes ⟨rfl, fun a w => by kernel_rfl⟩
  intro v9
  apply OblS.nil
  apply hK
  intro w2 hb hH
  obtain ⟨g, rfl, hg, hq⟩ := hH _ (List.mem_cons_self ..)
  have F2 := Lib.hid (F1.out.after hb)
  have G2 := Lib.hid hq
  have B2 := Lib.hid (nextB B1.out hb)
  have hgw : w.heap.size < g := Nat.lt_of_lt_of_le F1.out.lt hg
  clear hH hK K hq hb hg
  simp only [Act.put, List.setIfInBounds_toArray, List.set_cons_zero, List.set_cons_succ, List.drop_succ_cons, List.drop_zero]
  go_wp2_with (refine wpList_store_all rfl 44 _ _ rfl g rfl _ rfl 44 _ G2.out (by kernel_rfl) rfl (by simp [Value.oneCell']) ?_)
  have hgl := G2.out.lt
  have F3 := Lib.hid (F2.out.setRow_far (show w.heap.size ≠ g by omega) #[.int .i64 (numV a), .int .i64 (numV b), .int .i64 0])
  have G3 := Lib.hid (G2.out.setRow #[.int .i64 (numV a), .int .i64 (numV b), .int .i64 0])
  have B3 := Lib.hid (rowB B2.out (by omega : w.heap.size ≤ g) #[.int .i64 (numV a), .int .i64 (numV b), .int .i64 0])
  clear F2 G2 B2
  generalize w2.setRow g #[.int .i64 (numV a), .int .i64 (numV b), .int .i64 0] = w3 at *
  go_loopw [19] (fun v wr => v = .int .i64 0 ∧ Has wr w.heap.size 44 #[.int .i64 0, .int .i64 0, .int .i64 0] ∧ Has wr g 44 #[.int .i64 (numV a), .int .i64 (numV b), .int .i64 0] ∧ Below w.heap.size w wr) (fun v _ => 1)
  case atStart => exact ⟨rfl, F3.out, G3.out, B3.out⟩
  case round =>
    obtain ⟨rfl, hF, hG, hB⟩ := hrel
    have HF := Lib.hid hF; have HG := Lib.hid hG; have HBw := Lib.hid hB
    clear hF hG hB F3 G3 B3
    go_wp2_with (first
      | (refine wpList_load_row rfl 44 _ rfl g rfl 44 _ (0, 0) _ HG.out Tryz.underlying44 rfl (by kernel_rfl) ?_)
      | (refine wpList_store_all rfl 44 _ _ rfl w.heap.size rfl _ rfl 44 _ HF.out (by kernel_rfl) rfl (by simp [Value.oneCell']) ?_))
    exact bodyPost_ret (results_cell_row Tryz.results168 _ _ w.heap.size 44 _ (0, 0) _ rfl (HF.out.setRow _) Tryz.underlying44 rfl (by kernel_rfl)) rfl ⟨rfl, rowB HBw.out (by omega) _⟩
/-- A landing's words, whoever takes part. -/
theorem landing_ok (A : Option Addr) (m : Nat) (a b : List UInt8) (r : List (List UInt8)) (ha : wordB a = true) (hb : wordB b = true) (hr : r.all whoB = true) (hm : m ≤ 100000) (w : World) (hs : SlOf strC 1 w A (m + 2) (a :: b :: r)) :
    Calls Tryz.prog 168 #[.slice A (m + 2) (m + 2)] w fun e w' => e = .returned (.agg #[.int .i64 (numV a), .int .i64 (numV b), .int .i64 (orL 0 (r.map numV))]) ∧ Below w.heap.size w w' := by
  by_cases h0 : m = 0
  · subst h0
    have : r = [] := List.eq_nil_of_length_eq_zero (by have := hs.1; simpa using this)
    subst this
    exact landing_ok0 A a b ha hb w hs
  · exact landing_ok1 A m m a b r ha hb hr hm (Nat.le_refl _) h0 w hs
end Go.Proofs
namespace Go.Proofs
open Go.RowKit Go.Shelf
attribute [local go_sem ↓] Go.wp_at_zero Go.wp_at_succ

theorem who_bad : ∀ (r : List (List UInt8)), r.all whoB = false → ∃ j, ∃ h : j < r.length, whoB r[j] = false ∧ ∀ i, i < j → ∀ x, r[i]? = some x → whoB x = true
  | [], h => by simp at h
  | x :: r, h => by
    cases hx : whoB x
    · exact ⟨0, by simp, hx, fun i hi => by omega⟩
    · simp only [List.all_cons, hx, Bool.true_and] at h
      obtain ⟨k, hk, h1, h2⟩ := who_bad r h
      refine ⟨k + 1, by simpa using hk, by simpa using h1, fun i hi y hy => ?_⟩
      cases i with
      | zero => simp at hy; subst hy; exact hx
      | succ i => exact h2 i (by omega) y (by simpa using hy)

set_option maxHeartbeats 2000000 in
/-- A landing's words of which one of the first two is no number. -/
theorem landing_p1 (A : Option Addr) (m d : Nat) (a b : List UInt8) (r : List (List UInt8)) (hab : (wordB a && wordB b) = false) (hla : a.length ≤ 1000000) (hlb : b.length ≤ 1000000) (w : World) (hs : SlOf strC 1 w A (m + 2) (a :: b :: r)) :
    Calls Tryz.prog 168 #[.slice A (m + 2) (d + 2)] w fun e w' => e = .panicked noSeason ∧ Below w.heap.size w w' := by
  obtain ⟨q, o, rfl⟩ := hs.addr (by omega)
  have HA := Lib.hid fun (W : World) => number_any a hla W
  have HB := Lib.hid fun (W : World) => number_any b hlb W
  have C0 := Lib.hid fun (W : World) (hb : Below w.heap.size w W) => (by have := (hs.keep hb).range strC_len (k := 0) rfl 0 _ rfl; simpa using this : W.cell? ⟨q, o, none⟩ = some (.string (bs a)))
  have C1 := Lib.hid fun (W : World) (hb : Below w.heap.size w W) => (by have := (hs.keep hb).range strC_len (k := 1) rfl 0 _ rfl; simpa using this : W.cell? ⟨q, o + 1, none⟩ = some (.string (bs b)))
  obtain ⟨w1, hw1⟩ : ∃ w1, w1 = w.alloc (.cells #[.int .i64 0, .int .i64 0, .int .i64 0] 44) := ⟨_, rfl⟩
  have B1 := Lib.hid (show Below w.heap.size w w1 from by rw [hw1]; exact newB (Below.refl _ _) _)
  have HW := Lib.hid hw1
  have HAB := Lib.hid hab
  have i1 : (0 : Int) < (m : Int) + 2 := by omega
  have i2 : (1 : Int) < (m : Int) + 2 := by omega
  clear hs hw1 hab
  go_enter Tryz.func168, Tryz.ntmps168
  go_wp2
  rw [← HW.out]
  clear HW
  apply wp_looseP (c0 := noSeason) ?pan 10 [.v _, .v _, .v _, .r (fun v _ => v = .int .i64 (numV a) ∧ wordB a = true), .v _, .v _, .v _, .r (fun v _ => v = .int .i64 (numV b) ∧ wordB b = true), .r (fun _ _ => True), .r (NewR w1 44 #[.int .i64 0, .int .i64 0, .int .i64 0])] (by kernel_rfl) (by kernel_rfl) (by kernel_rfl) (by decide) rfl
  case pan =>
    intro b' w' hd hb
    exact ⟨hd, rfl, nextB B1.out hb⟩
  intro K hK
  apply OblP.val rfl
  · intro w' hb _; go_simp; rfl
  apply OblP.val rfl
  · intro w' hb _; go_simp; rfl
  apply OblP.val rfl
  · intro w' hb _; have := C0.out w' (nextB B1.out hb); go_simp; rfl
  apply OblP.callP 181 (fun _ _ _ h _ => h) rfl
  · intro w' hb _; apply Exists.intro; apply And.intro; (go_simp; rfl); exact HA.out w'
  intro v3
  apply OblP.val rfl
  · intro w' hb _; go_simp; rfl
  apply OblP.val rfl
  · intro w' hb _; go_simp; rfl
  apply OblP.val rfl
  · intro w' hb _; have := C1.out w' (nextB B1.out hb); go_simp; rfl
  apply OblP.callP 181 (fun _ _ _ h _ => h) rfl
  · intro w' hb _; apply Exists.intro; apply And.intro; (go_simp; rfl); exact HB.out w'
  intro v7
  apply OblP.run (fun _ _ _ h _ => h) rfl
  · intro w' hb hH
    obtain ⟨rfl, _⟩ := hH (7, _) (List.mem_cons_self ..) (by kernel_rfl)
    obtain ⟨rfl, _⟩ := hH (3, _) (List.mem_cons_of_mem _ (List.mem_cons_self ..)) (by kernel_rfl)
    exact ⟨.agg #[.int .i64 (numV a), .int .i64 (numV b), .int .i64 0], w', (by go_simp), trivial, Below.refl _ _⟩
  intro v8
  apply OblP.makes ⟨rfl, fun a w => by kernel_rfl⟩
  intro v9
  apply OblP.nil
  apply hK
  intro w2 hb hH
  exfalso
  have h7 := (hH (7, _) (List.mem_cons_of_mem _ (List.mem_cons_of_mem _ (List.mem_cons_self ..)))).2
  have h3 := (hH (3, _) (List.mem_cons_of_mem _ (List.mem_cons_of_mem _ (List.mem_cons_of_mem _ (List.mem_cons_self ..))))).2
  have := HAB.out
  rw [h7, h3] at this
  cases this
set_option maxHeartbeats 2000000 in
/-- A landing's words of which a later one names nobody. -/
theorem landing_p2 (A : Option Addr) (m d : Nat) (a b : List UInt8) (r : List (List UInt8)) (ha : wordB a = true) (hb : wordB b = true) (hr : r.all whoB = false) (hlr : ∀ l ∈ r, l.length ≤ 1000000) (hm : m ≤ 100000) (hc : m ≤ d) (hd : ¬ d = 0) (w : World) (hs : SlOf strC 1 w A (m + 2) (a :: b :: r)) :
    Calls Tryz.prog 168 #[.slice A (m + 2) (d + 2)] w fun e w' => e = .panicked noSeason ∧ Below w.heap.size w w' := by
  obtain ⟨q, o, rfl⟩ := hs.addr (by omega)
  obtain ⟨j, hj, hbad, hgood⟩ := who_bad r hr
  have HBad := Lib.hid hbad; have HLR := Lib.hid hlr
  have hrm : r.length = m := by have := hs.1; simpa using this
  have HA := Lib.hid fun (W : World) => number_c a ha W
  have HB := Lib.hid fun (W : World) => number_c b hb W
  have HS := Lib.hid hs
  have C0 := Lib.hid fun (W : World) (hb : Below w.heap.size w W) => (by have := (hs.keep hb).range strC_len (k := 0) rfl 0 _ rfl; simpa using this : W.cell? ⟨q, o, none⟩ = some (.string (bs a)))
  have C1 := Lib.hid fun (W : World) (hb : Below w.heap.size w W) => (by have := (hs.keep hb).range strC_len (k := 1) rfl 0 _ rfl; simpa using this : W.cell? ⟨q, o + 1, none⟩ = some (.string (bs b)))
  obtain ⟨w1, hw1⟩ : ∃ w1, w1 = w.alloc (.cells #[.int .i64 0, .int .i64 0, .int .i64 0] 44) := ⟨_, rfl⟩
  have B1 := Lib.hid (show Below w.heap.size w w1 from by rw [hw1]; exact newB (Below.refl _ _) _)
  have F1 := Lib.hid (show Has w1 w.heap.size 44 #[.int .i64 0, .int .i64 0, .int .i64 0] from by rw [hw1]; exact Has.new w 44 _)
  have HW := Lib.hid hw1
  have HR := Lib.hid hgood; have HRM := Lib.hid hrm
  have hjm : j < m := by omega
  have i1 : (0 : Int) < (m : Int) + 2 := by omega
  have i2 : (1 : Int) < (m : Int) + 2 := by omega
  have i3 : (2 : Int) ≤ (m : Int) + 2 := by omega
  have i4 : (m : Int) + 2 ≤ (d : Int) + 2 := by omega
  clear hs ha hb hw1 hr hrm hbad hgood hlr
  go_enter Tryz.func168, Tryz.ntmps168
  go_wp2
  rw [← HW.out]
  clear HW
  apply wp_loose 10 [.v _, .v _, .v _, .v _, .v _, .v _, .v _, .v _, .v _, .r (NewR w1 44 #[.int .i64 0, .int .i64 0, .int .i64 0])] (by kernel_rfl) (by kernel_rfl) (by kernel_rfl) (by decide) rfl
  intro K hK
  apply OblS.val rfl
  · intro w' hb _; go_simp; rfl
  apply OblS.val rfl
  · intro w' hb _; go_simp; rfl
  apply OblS.val rfl
  · intro w' hb _; have := C0.out w' (nextB B1.out hb); go_simp; rfl
  apply OblS.call (v := .int .i64 (numV a)) 181 rfl
  · intro w' hb _; apply Exists.intro; apply And.intro; (go_simp; rfl); exact HA.out w'
  apply OblS.val rfl
  · intro w' hb _; go_simp; rfl
  apply OblS.val rfl
  · intro w' hb _; go_simp; rfl
  apply OblS.val rfl
  · intro w' hb _; have := C1.out w' (nextB B1.out hb); go_simp; rfl
  apply OblS.call (v := .int .i64 (numV b)) 181 rfl
  · intro w' hb _; apply Exists.intro; apply And.intro; (go_simp; rfl); exact HB.out w'
  apply OblS.val (v := .agg #[.int .i64 (numV a), .int .i64 (numV b), .int .i64 0]) rfl
  · intro w' hb _; go_simp
  apply OblS.makes ⟨rfl, fun a w => by kernel_rfl⟩
  intro v9
  apply OblS.nil
  apply hK
  intro w2 hb hH
  obtain ⟨g, rfl, hg, hq⟩ := hH _ (List.mem_cons_self ..)
  have F2 := Lib.hid (F1.out.after hb)
  have G2 := Lib.hid hq
  have B2 := Lib.hid (nextB B1.out hb)
  have hgw : w.heap.size < g := Nat.lt_of_lt_of_le F1.out.lt hg
  clear hH hK K hq hb hg
  simp only [Act.put, List.setIfInBounds_toArray, List.set_cons_zero, List.set_cons_succ, List.drop_succ_cons, List.drop_zero]
  go_wp2_with (refine wpList_store_all rfl 44 _ _ rfl g rfl _ rfl 44 _ G2.out (by kernel_rfl) rfl (by simp [Value.oneCell']) ?_)
  have hgl := G2.out.lt
  have F3 := Lib.hid (F2.out.setRow_far (show w.heap.size ≠ g by omega) #[.int .i64 (numV a), .int .i64 (numV b), .int .i64 0])
  have G3 := Lib.hid (G2.out.setRow #[.int .i64 (numV a), .int .i64 (numV b), .int .i64 0])
  have B3 := Lib.hid (rowB B2.out (by omega : w.heap.size ≤ g) #[.int .i64 (numV a), .int .i64 (numV b), .int .i64 0])
  clear i1 i2 i3 i4 F2 G2 B2
  have HT := Lib.hid (show SlOf strC 1 w (some ⟨q, o + 2, none⟩) m r by
    have := HS.out.drop strC_len (l := 2) (by omega) (by omega : m + 2 ≤ d + 2)
    rw [if_neg (show ¬ d + 2 = 2 by omega)] at this
    simpa [Addr.add] using this)
  generalize w2.setRow g #[.int .i64 (numV a), .int .i64 (numV b), .int .i64 0] = w3 at *
  go_loopw [19] (fun v wr => ∃ k : Nat, k ≤ j ∧ v = .int .i64 k ∧ Has wr w.heap.size 44 #[.int .i64 0, .int .i64 0, .int .i64 0] ∧ Has wr g 44 #[.int .i64 (numV a), .int .i64 (numV b), .int .i64 (orL 0 ((r.take k).map numV))] ∧ Below w.heap.size w wr) (fun v _ => m - (intOf v).toNat)
  case atStart => exact ⟨0, by omega, rfl, F3.out, G3.out, B3.out⟩
  case round =>
    obtain ⟨k, hk, rfl, hF, hG, hB⟩ := hrel
    have HF := Lib.hid hF; have HG := Lib.hid hG; have HBw := Lib.hid hB
    clear hF hG hB F3 G3 B3
    by_cases hkj : k < j
    · have hkm : k < m := by omega
      have hkl : k < r.length := by omega
      have hx := List.getElem?_eq_getElem hkl
      have HTk := Lib.hid (List.take_append_getElem hkl)
      obtain ⟨x, hxx⟩ : ∃ x, x = r[k] := ⟨_, rfl⟩
      rw [← hxx] at hx HTk
      have hwx := HR.out k hkj x hx
      simp only [whoB, Bool.and_eq_true, decide_eq_true_eq] at hwx
      have cx : wr.cell? ⟨q, o + 2 + k, none⟩ = some (.string (bs x)) := by
        have := ((HT.out.keep HBw.out).range strC_len hx) 0 _ rfl
        simpa using this
      have HNx := Lib.hid fun (W : World) => number_c x hwx.1 W
      obtain ⟨t, ht⟩ : ∃ t : Nat, numV x = t := ⟨(numV x).toNat, by have := (numV_bd hwx.1).1; omega⟩
      have HO := Lib.hid (show orL 0 ((r.take (k + 1)).map numV) = setN (orL 0 ((r.take k).map numV)) t by
        rw [← HTk.out, List.map_append, List.map_cons, List.map_nil, orL_snoc, ht]; rfl)
      have hob := orL_bd ((r.take k).map numV) 0 (by omega) (by omega) (fun y hy => by
        obtain ⟨z, hz, rfl⟩ := List.mem_map.1 hy
        obtain ⟨i, hi, e⟩ := List.getElem_of_mem hz
        have hil : i < k := by simp at hi; omega
        have h := HR.out i (by omega) z (by rw [← e, List.getElem_take]; exact List.getElem?_eq_getElem (by omega))
        simp only [whoB, Bool.and_eq_true, decide_eq_true_eq] at h
        exact ⟨(numV_bd h.1).1, h.2⟩)
      rw [ht] at HNx
      have ht9 : t < 10 := by have := hwx.2; omega
      have hcb := set_bitsT hob.1 hob.2 ht9
      generalize orL 0 ((r.take k).map numV) = s at *
      have ht9' : ¬ (9 : Int) < (t : Int) := by omega
      have ht9'' : ¬ 9 < t := by omega
      have hp2 : (1 : Int) ≤ 2 ^ t ∧ (2 : Int) ^ t ≤ 512 := by
        have e : ((2 ^ t : Nat) : Int) = (2 : Int) ^ t := by push_cast; rfl
        have h1 : (2 : Nat) ^ t ≤ 2 ^ 9 := Nat.pow_le_pow_right (by omega) (by omega)
        have h2 : 0 < (2 : Nat) ^ t := Nat.pow_pos (by omega)
        omega
      clear hx hxx hwx ht
      go_wp2_with (go_at_call 181; refine (HNx.out _).mono ?_; rintro e w5 ⟨rfl, hb⟩; have F5 := Lib.hid (HF.out.after hb); have G5 := Lib.hid (HG.out.after hb); have B5 := Lib.hid (nextB HBw.out hb); clear hb)
      refine wp_free 6 (by kernel_rfl) (by kernel_rfl) (by kernel_rfl) (by decide) ?_
      intro K hK
      iterate 3 (apply Obl.val (by decide) (by kernel_rfl); (intro w' hb; have := (G5.out.after hb).cell; go_simp; rfl))
      apply Obl.val (v := .int .i64 (2 ^ t)) (by decide) (by kernel_rfl)
      · intro w' hb; go_simp; rw [IntKind.wrap_i64]; omega
      apply Obl.val (v := .int .i64 (setN s t)) (by decide) (by kernel_rfl)
      · intro w' hb; go_simp
      apply Obl.val (by decide) (by kernel_rfl)
      · intro w' hb; go_simp; rfl
      apply Obl.nil
      apply hK
      intro w6 hb
      simp only [Act.put, List.setIfInBounds_toArray, List.set_cons_zero, List.set_cons_succ, List.drop_succ_cons, List.drop_zero]
      clear hK K
      have F6 := Lib.hid (F5.out.after hb); have G6 := Lib.hid (G5.out.after hb); have B6 := Lib.hid (nextB B5.out hb)
      have cg := G6.out.cell; have fg := G6.out.frozen
      clear hb
      go_wp2
      go_roundw
      case rel =>
        refine ⟨k + 1, by omega, by go_num, F6.out.far (by show w.heap.size ≠ g; omega) _, ?_, setB B6.out (by show w.heap.size ≤ g; omega) _⟩
        rw [HO.out]; exact G6.out.set 2 _
      case measure => first | (simp [intOf]; done) | (simp [intOf]; omega)
    · have hke : k = j := by omega
      subst hke
      have hx := List.getElem?_eq_getElem hj
      have hxm := List.getElem_mem hj
      have hbd := HBad.out
      obtain ⟨x, hxx⟩ : ∃ x, x = r[k] := ⟨_, rfl⟩
      rw [← hxx] at hx hbd hxm
      have hxl := HLR.out x hxm
      have cx : wr.cell? ⟨q, o + 2 + k, none⟩ = some (.string (bs x)) := by
        have := ((HT.out.keep HBw.out).range strC_len hx) 0 _ rfl
        simpa using this
      cases hw : wordB x
      · have HNx := Lib.hid fun (W : World) => number_p x hw hxl W
        clear hx hxx hxm hbd hw
        go_wp2_with (go_at_call 181; refine (HNx.out _).mono ?_; rintro e w5 ⟨rfl, hb⟩; have B5 := Lib.hid (nextB HBw.out hb); clear hb)
        exact ⟨rfl, rfl, B5.out⟩
      · have HNx := Lib.hid fun (W : World) => number_c x hw W
        have hgt : 9 < numV x := by
          simp only [whoB, hw, Bool.true_and, decide_eq_false_iff_not] at hbd; omega
        obtain ⟨t, ht⟩ : ∃ t : Nat, numV x = t := ⟨(numV x).toNat, by omega⟩
        rw [ht] at HNx hgt
        have hgt' : (9 : Int) < (t : Int) := hgt
        have hgt'' : 9 < t := by omega
        clear hx hxx hxm hbd hw ht
        go_wp2_with (go_at_call 181; refine (HNx.out _).mono ?_; rintro e w5 ⟨rfl, hb⟩; have B5 := Lib.hid (nextB HBw.out hb); clear hb)
        exact ⟨rfl, rfl, B5.out⟩
end Go.Proofs
namespace Go.Proofs
open Go.RowKit Go.Shelf
attribute [local go_sem ↓] Go.wp_at_zero Go.wp_at_succ

def parseP : List (List UInt8) → Option Pe
  | [a, b, f] => if (wordB a && wordB b) = true ∧ ¬ fateW f = 0 then some ⟨numV a, numV b, fateW f⟩ else none
  | _ => none
def parseLa : List (List UInt8) → Option La
  | a :: b :: r => if (wordB a && wordB b) = true ∧ r.all whoB = true then some ⟨numV a, numV b, orL 0 (r.map numV)⟩ else none
  | _ => none
/-- What a line adds. -/
def stepT (a : List Pe × List La) (line : List UInt8) : Option (List Pe × List La) :=
  match pieces 32 line with
  | [] => some a
  | w0 :: r => if w0 = wPerson ∧ r.length = 3 then (parseP r).map fun p => (a.1 ++ [p], a.2)
    else if w0 = wLanding ∧ 2 ≤ r.length then (parseLa r).map fun l => (a.1, a.2 ++ [l]) else some a
def foldT : List (List UInt8) → List Pe × List La → Option (List Pe × List La)
  | [], a => some a
  | l :: r, a => (stepT a l).bind (foldT r)
theorem foldT_snoc (l : List UInt8) : ∀ (ls : List (List UInt8)) (a : List Pe × List La), foldT (ls ++ [l]) a = (foldT ls a).bind fun b => stepT b l
  | [], a => by simp [foldT]
  | x :: r, a => by
    simp only [List.cons_append, foldT]
    cases stepT a x with
    | none => rfl
    | some b => simp only [Option.bind_some]; exact foldT_snoc l r b
theorem foldT_none {l : List UInt8} {b : List Pe × List La} : ∀ (ls r : List (List UInt8)) (a : List Pe × List La), foldT ls a = some b → stepT b l = none → foldT (ls ++ l :: r) a = none
  | [], r, a, h, hn => by simp only [foldT] at h; cases h; simp [foldT, hn]
  | x :: t, r, a, h, hn => by
    simp only [foldT, List.cons_append] at h ⊢
    cases hs : stepT a x with
    | none => rfl
    | some c =>
      rw [hs] at h
      simp only [Option.bind_some] at h ⊢
      exact foldT_none t r c h hn
/-- The season that a text tells. -/
def toldF (text : List UInt8) : Option (List Pe × List La) := match foldT (pieces 10 text) ([], []) with
  | none => none
  | some b => if textF b.1 b.2 = text then some b else none

theorem fateTo_cases (f : List UInt8) : 0 ≤ fateW f ∧ fateW f ≤ 3 := fateTo_bd f 3
theorem parseP_ok {r : List (List UInt8)} {p : Pe} (h : parseP r = some p) : PeT p := by
  unfold parseP at h
  split at h
  · rename_i a b f
    split at h
    · rename_i hc
      simp only [Bool.and_eq_true] at hc
      cases h
      have h1 := numV_bd hc.1.1; have h2 := numV_bd hc.1.2; have h3 := fateTo_cases f; have h4 := hc.2
      exact ⟨by simp only; omega, by simp only; omega, by simp only; omega⟩
    · cases h
  · cases h
theorem parseLa_ok {r : List (List UInt8)} {l : La} (h : parseLa r = some l) : LaT l := by
  unfold parseLa at h
  split at h
  · rename_i a b r
    split at h
    · rename_i hc
      simp only [Bool.and_eq_true] at hc
      cases h
      have h1 := numV_bd hc.1.1; have h2 := numV_bd hc.1.2
      have h3 := orL_bd (r.map numV) 0 (by omega) (by omega) (fun y hy => by
        obtain ⟨z, hz, rfl⟩ := List.mem_map.1 hy
        have h := List.all_eq_true.1 hc.2 z hz
        simp only [whoB, Bool.and_eq_true, decide_eq_true_eq] at h
        exact ⟨(numV_bd h.1).1, h.2⟩)
      exact ⟨by simp only; omega, by simp only; omega, by simp only; omega⟩
    · cases h
  · cases h
def OkT (n : Nat) (a : List Pe × List La) : Prop := (∀ p ∈ a.1, PeT p) ∧ (∀ l ∈ a.2, LaT l) ∧ a.1.length ≤ n ∧ a.2.length ≤ n
theorem stepT_ok {n : Nat} {a b : List Pe × List La} {l : List UInt8} (h : stepT a l = some b) (ha : OkT n a) : OkT (n + 1) b := by
  obtain ⟨h1, h2, h3, h4⟩ := ha
  unfold stepT at h
  split at h
  · cases h; exact ⟨h1, h2, by omega, by omega⟩
  · split at h
    · rw [Option.map_eq_some_iff] at h
      obtain ⟨p, hp, rfl⟩ := h
      refine ⟨fun x hx => ?_, h2, by simp; omega, by simp only; omega⟩
      rcases List.mem_append.1 hx with hx | hx
      · exact h1 x hx
      · simp at hx; subst hx; exact parseP_ok hp
    · split at h
      · rw [Option.map_eq_some_iff] at h
        obtain ⟨p, hp, rfl⟩ := h
        refine ⟨h1, fun x hx => ?_, by simp only; omega, by simp; omega⟩
        rcases List.mem_append.1 hx with hx | hx
        · exact h2 x hx
        · simp at hx; subst hx; exact parseLa_ok hp
      · cases h; exact ⟨h1, h2, by omega, by omega⟩

theorem pieces_lens {c : UInt8} : ∀ (s : List UInt8) p, p ∈ pieces c s → p.length ≤ s.length := by
  intro s
  induction s with
  | nil => intro p hp; simp [pieces] at hp; simp [hp]
  | cons y r ih =>
    intro p hp
    simp only [pieces] at hp
    split at hp
    · rcases List.mem_cons.1 hp with rfl | hp
      · simp
      · have := ih p hp; simp; omega
    · split at hp
      · rename_i q qs hq
        rcases List.mem_cons.1 hp with rfl | hp
        · have := ih q (by rw [hq]; simp); simp; omega
        · have := ih p (by rw [hq]; simp [hp]); simp; omega
      · simp at hp; simp [hp]

/-- What reading a person's words comes to. -/
def perE : Option Pe → Ending
  | none => .panicked noSeason
  | some p => .returned (.agg #[.int .i64 p.p, .int .i64 p.d, .int .i64 p.f])
def laE : Option La → Ending
  | none => .panicked noSeason
  | some l => .returned (.agg #[.int .i64 l.g, .int .i64 l.c, .int .i64 l.w])
theorem personOf_c (A : Option Addr) (r : List (List UInt8)) (h3 : r.length = 3) (hl : ∀ x ∈ r, x.length ≤ 1000000) (w : World) (hs : SlOf strC 1 w A 3 r) :
    Calls Tryz.prog 167 #[.slice A 3 3] w fun e w' => e = perE (parseP r) ∧ Below w.heap.size w w' := by
  match r, h3 with
  | [a, b, f], _ =>
    cases hab : (wordB a && wordB b)
    · have : parseP [a, b, f] = none := by simp [parseP, hab]
      rw [this]
      exact person_p A 3 a b f hab (hl a (by simp)) (hl b (by simp)) (by omega) w hs
    · have h1 := hab
      simp only [Bool.and_eq_true] at h1
      refine (person_ok A 3 a b f h1.1 h1.2 (by omega) w hs).mono fun e w' ⟨he, hb⟩ => ⟨?_, hb⟩
      rw [he]
      by_cases hf : fateW f = 0
      · simp [parseP, persE, hf, perE]
      · simp [parseP, persE, hf, hab, perE]
theorem landingOf_c (A : Option Addr) (m : Nat) (r : List (List UInt8)) (h2 : r.length = m + 2) (hm : m ≤ 100000) (hl : ∀ x ∈ r, x.length ≤ 1000000) (w : World) (hs : SlOf strC 1 w A (m + 2) r) :
    Calls Tryz.prog 168 #[.slice A (m + 2) (m + 2)] w fun e w' => e = laE (parseLa r) ∧ Below w.heap.size w w' := by
  match r, h2 with
  | a :: b :: r, h2 =>
    have hrm : r.length = m := by simpa using h2
    cases hab : (wordB a && wordB b)
    · have : parseLa (a :: b :: r) = none := by simp [parseLa, hab]
      rw [this]
      exact landing_p1 A m m a b r hab (hl a (by simp)) (hl b (by simp)) w hs
    · have h1 := hab
      simp only [Bool.and_eq_true] at h1
      cases hr : r.all whoB
      · have : parseLa (a :: b :: r) = none := by simp only [parseLa, hr]; simp
        rw [this]
        have hm0 : ¬ m = 0 := by
          intro h0
          have : r = [] := List.eq_nil_of_length_eq_zero (by omega)
          subst this; cases hr
        exact landing_p2 A m m a b r h1.1 h1.2 hr (fun x hx => hl x (by simp [hx])) hm (Nat.le_refl _) hm0 w hs
      · have : parseLa (a :: b :: r) = some ⟨numV a, numV b, orL 0 (r.map numV)⟩ := by simp only [parseLa, hr, hab]; simp
        rw [this]
        exact landing_ok A m a b r h1.1 h1.2 hr hm w hs
end Go.Proofs
namespace Go.Proofs
open Go.RowKit Go.Shelf
attribute [local go_sem ↓] Go.wp_at_zero Go.wp_at_succ

theorem eqw {w0 c : List UInt8} : ((bs w0).toList = c) ↔ w0 = c := by rw [ByteArray.toList_eq, bs_list]
/-- How far a text has been told. -/
structure TIn (w : World) (g m : Nat) (L : List (List UInt8)) (v1 v2 : Value) (ps : List Pe) (ls : List La) (wr : World) : Prop where
  t : Has wr w.heap.size 25 #[.slice none 0 0, .slice none 0 0]
  q : Has wr (w.heap.size + 1) 25 #[v1, v2]
  ps : Own eP w.heap.size v1 ps wr
  ls : Own eL w.heap.size v2 ls wr
  ln : Own eT w.heap.size (.slice (some ⟨g, 0, none⟩) m m) L wr
  b : Below w.heap.size w wr
section
variable {w : World} {g m : Nat} {L : List (List UInt8)} {v1 v2 : Value} {ps : List Pe} {ls : List La} {wr : World}
theorem TIn.keep (h : TIn w g m L v1 v2 ps ls wr) {w' : World} (hb : Below wr.heap.size wr w') : TIn w g m L v1 v2 ps ls w' :=
  ⟨h.t.after hb, h.q.after hb, h.ps.keep hb, h.ls.keep hb, h.ln.keep hb, nextB h.b hb⟩
theorem TIn.line (h : TIn w g m L v1 v2 ps ls wr) (_ : m = L.length) {k : Nat} {x : List UInt8} (hx : L[k]? = some x) : wr.cell? ⟨g, k, none⟩ = some (.string (bs x)) := by
  obtain ⟨A, c, e, hs, _⟩ := h.ln.sl
  simp only [Value.slice.injEq] at e
  obtain ⟨rfl, _, _⟩ := e
  have := hs.range strC_len hx 0 _ rfl
  simpa [eT] using this
theorem TIn.addP (h : TIn w g m L v1 v2 ps ls wr) {v : Value} {w7 : World} {p : Pe} (ho : Own eP w.heap.size v (ps ++ [p]) w7) (hb : Below w.heap.size wr w7) (hsp : Spares wr w7 49) : TIn w g m L v v2 (ps ++ [p]) ls (w7.setCell ⟨w.heap.size + 1, 0, none⟩ v) := by
  have hq := hsp.has h.q (by decide)
  exact ⟨(hsp.has h.t (by decide)).far (by show w.heap.size ≠ w.heap.size + 1; omega) _, hq.set 0 v, ho.setFar hq (by decide) _, (h.ls.spared hsp (by decide)).setFar hq (by decide) _, (h.ln.spared hsp (by decide)).setFar hq (by decide) _, setB (h.b.trans hb) (by show w.heap.size ≤ w.heap.size + 1; omega) _⟩
theorem TIn.addL (h : TIn w g m L v1 v2 ps ls wr) {v : Value} {w7 : World} {p : La} (ho : Own eL w.heap.size v (ls ++ [p]) w7) (hb : Below w.heap.size wr w7) (hsp : Spares wr w7 44) : TIn w g m L v1 v ps (ls ++ [p]) (w7.setCell ⟨w.heap.size + 1, 1, none⟩ v) := by
  have hq := hsp.has h.q (by decide)
  exact ⟨(hsp.has h.t (by decide)).far (by show w.heap.size ≠ w.heap.size + 1; omega) _, hq.set 1 v, (h.ps.spared hsp (by decide)).setFar hq (by decide) _, ho.setFar hq (by decide) _, (h.ln.spared hsp (by decide)).setFar hq (by decide) _, setB (h.b.trans hb) (by show w.heap.size ≤ w.heap.size + 1; omega) _⟩
end
/-- What telling comes to. -/
def ToldP (text : List UInt8) (B : Nat) (e : Ending) (w' : World) : Prop :=
  (∃ (A1 A2 : Option Addr) (c1 c2 : Nat) (ps : List Pe) (ls : List La), toldF text = some (ps, ls) ∧ e = .returned (.agg #[.slice A1 ps.length c1, .slice A2 ls.length c2]) ∧ Own eP B (.slice A1 ps.length c1) ps w' ∧ Own eL B (.slice A2 ls.length c2) ls w' ∧ ps.length ≤ 1000 ∧ ls.length ≤ 1000) ∨ (toldF text = none ∧ e = .panicked noSeason)

theorem own_words {b q n : Nat} {ws : List (List UInt8)} {W : World} (h : Own eT b (.slice (some ⟨q, 0, none⟩) n n) ws W) (hn : n = ws.length) : SlOf strC 1 W (some ⟨q, 0, none⟩) n ws := by
  obtain ⟨A, c, e, hs, _⟩ := h.sl
  simp only [Value.slice.injEq] at e
  obtain ⟨rfl, _, _⟩ := e
  rw [hn]; exact hs
theorem own_sl0 {α : Type} {e : El α} {b n c : Nat} {A : Option Addr} {xs : List α} {W : World} (h : Own e b (.slice A n c) xs W) (hn : n = xs.length) : SlOf e.f e.sz W A n xs := by
  obtain ⟨A', c', e1, hs, _⟩ := h.sl
  simp only [Value.slice.injEq] at e1
  obtain ⟨rfl, _, _⟩ := e1
  rw [hn]; exact hs
theorem own_tail {b q n : Nat} {w0 : List UInt8} {r : List (List UInt8)} {W : World} (h : Own eT b (.slice (some ⟨q, 0, none⟩) (n + 1) (n + 1)) (w0 :: r) W) (hn : n = r.length) (h0 : 0 < n) : SlOf strC 1 W (some ⟨q, 1, none⟩) n r := by
  have := (own_words h (by simp [hn])).drop strC_len (l := 1) (by omega) (Nat.le_refl (n + 1))
  rw [if_neg (by omega)] at this
  simpa [Addr.add] using this

set_option maxHeartbeats 4000000 in
theorem told_c (text : List UInt8) (hlen : text.length ≤ 999) (w : World) (hI : ItoaAll w) :
    Calls Tryz.prog 120 #[.string (bs text)] w fun e w' => ToldP text w.heap.size e w' ∧ Below w.heap.size w w' := by
  have HSp := Lib.hid fun (W : World) => split_c 10 text (by omega) W
  have HSw := Lib.hid fun (x : List UInt8) (hx : x.length ≤ 1000) (W : World) => split_c 32 x (by omega) W
  obtain ⟨L, hL⟩ : ∃ L, L = pieces 10 text := ⟨_, rfl⟩
  have hll : ∀ x ∈ L, x.length ≤ 1000 := fun x hx => by have := pieces_lens text x (by rw [← hL]; exact hx); omega
  have hpl := pieces_len 10 text
  have hcb := pieces_bd 10 text
  rw [← hL] at HSp hpl
  obtain ⟨m, hm⟩ : ∃ m, m = L.length := ⟨_, rfl⟩
  rw [← hm] at HSp hpl
  have hm1 : m ≤ 1000 := by omega
  have HLL := Lib.hid hll; have HM := Lib.hid hm; have HL := Lib.hid hL; have HI := Lib.hid hI
  have T0 := Lib.hid ((Has.new w 25 #[.slice none 0 0, .slice none 0 0]).alloc (.cells #[.slice none 0 0, .slice none 0 0] 25))
  have Q0 := Lib.hid (Has.new' (w.alloc (.cells #[.slice none 0 0, .slice none 0 0] 25)) 25 #[.slice none 0 0, .slice none 0 0] (g := w.heap.size + 1) (by simp))
  have B0 := Lib.hid (newB (newB (Below.refl w.heap.size w) (.cells #[.slice none 0 0, .slice none 0 0] 25)) (.cells #[.slice none 0 0, .slice none 0 0] 25))
  clear hll hpl hcb hL hm hI
  go_enter Tryz.func120, Tryz.ntmps120
  go_wp2_with (go_at_call 166; refine (HSp.out _).mono ?_; rintro e w1 ⟨g, rfl, hsl, hb⟩; have H1 := Lib.hid (show TIn w g m L (.slice none 0 0) (.slice none 0 0) [] [] w1 from ⟨T0.out.after hb, Q0.out.after hb, Own.nil _ _ _, Own.nil _ _ _, hsl.lower B0.out.size, nextB B0.out hb⟩); clear hsl hb)
  clear T0 Q0 B0
  go_loopw [10] (fun v wr => ∃ (k : Nat) (ps : List Pe) (ls : List La) (v1 v2 : Value), k ≤ m ∧ v = .int .i64 k ∧ foldT (L.take k) ([], []) = some (ps, ls) ∧ OkT k (ps, ls) ∧ TIn w g m L v1 v2 ps ls wr) (fun v _ => m - (intOf v).toNat)
  case atStart => exact ⟨0, [], [], _, _, by omega, rfl, rfl, ⟨by simp, by simp, by simp, by simp⟩, H1.out⟩
  case round =>
    obtain ⟨k, ps, ls, v1, v2, hk, rfl, hf, hok, hT⟩ := hrel
    have HF := Lib.hid hf; have HO := Lib.hid hok; have HT := Lib.hid hT
    clear hf hok hT H1
    by_cases hkm : k < m
    · have hkl : k < L.length := by rw [← HM.out]; exact hkm
      have hx := List.getElem?_eq_getElem hkl
      have hxm := List.getElem_mem hkl
      have HTk := Lib.hid (List.take_append_getElem hkl)
      have HDr := Lib.hid (show L = L.take k ++ L[k] :: L.drop (k + 1) by rw [← List.drop_eq_getElem_cons hkl, List.take_append_drop])
      obtain ⟨x, hxx⟩ : ∃ x, x = L[k] := ⟨_, rfl⟩
      rw [← hxx] at hx hxm HTk HDr
      have hx1 := HLL.out x hxm
      have cx := HT.out.line HM.out hx
      have HSx := Lib.hid (HSw.out x hx1)
      have HFs := Lib.hid (show foldT (L.take (k + 1)) ([], []) = stepT (ps, ls) x by rw [← HTk.out, foldT_snoc, HF.out]; rfl)
      have HFn := Lib.hid (show stepT (ps, ls) x = none → toldF text = none from fun h => by
        have := foldT_none (L.take k) (L.drop (k + 1)) ([], []) HF.out h
        rw [← HDr.out] at this
        unfold toldF; rw [← HL.out, this])
      have HOk := Lib.hid (show ∀ b, stepT (ps, ls) x = some b → OkT (k + 1) b from fun b h => stepT_ok h HO.out)
      have hws : ∀ y ∈ pieces 32 x, y.length ≤ 1000000 := fun y hy => by have := pieces_lens x y hy; omega
      have hst : stepT (ps, ls) x = match pieces 32 x with
        | [] => some (ps, ls)
        | w0 :: r => if w0 = wPerson ∧ r.length = 3 then (parseP r).map fun p => (ps ++ [p], ls)
          else if w0 = wLanding ∧ 2 ≤ r.length then (parseLa r).map fun l => (ps, ls ++ [l]) else some (ps, ls) := rfl
      have hnl := pieces_len 32 x
      have hnb := pieces_bd 32 x
      obtain ⟨w0, r, hwr⟩ : ∃ w0 r, pieces 32 x = w0 :: r := by
        cases hp : pieces 32 x with
        | nil => exact absurd hp (pieces_ne 32 x)
        | cons a b => exact ⟨a, b, rfl⟩
      rw [hwr] at hws hst HSx hnl
      simp only at hst
      obtain ⟨n, hn⟩ : ∃ n, n = r.length := ⟨_, rfl⟩
      simp only [List.length_cons] at hnl HSx
      rw [← hn] at hst HSx hnl
      have hn1 : n ≤ 1000 := by omega
      have HNr := Lib.hid hn; have HWs := Lib.hid hws; have HSt := Lib.hid hst
      clear hx hxm hxx hx1 hwr hws hst hnl hnb hn
      by_cases h1 : w0 = wPerson
      · have e1 : (bs w0).toList = [112, 101, 114, 115, 111, 110] := eqw.2 h1
        have e1b : ((bs w0).toList == [112, 101, 114, 115, 111, 110]) = true := by rw [e1]; rfl
        by_cases h3 : n = 3
        · subst h3
          have HS2 := Lib.hid (show stepT (ps, ls) x = (parseP r).map fun p => (ps ++ [p], ls) by rw [HSt.out, if_pos ⟨h1, rfl⟩])
          have HPc := Lib.hid fun (A : Option Addr) (W : World) (hs : SlOf strC 1 W A 3 r) => personOf_c A r HNr.out.symm (fun y hy => HWs.out y (List.mem_cons_of_mem _ hy)) W hs
          clear HSt h1
          go_wp2_with (go_at_call 166; refine (HSx.out _).mono ?_; rintro e w5 ⟨g2, rfl, ho, hb⟩; have H5 := Lib.hid (HT.out.keep hb); have O5 := Lib.hid ho; have c0 : w5.cell? ⟨g2, 0, none⟩ = some (.string (bs w0)) := (by have := (own_words ho (by simp [← HNr.out])).range strC_len (k := 0) rfl 0 _ rfl; simpa using this); clear ho hb)
          clear c0 e1 e1b cx
          cases hp : parseP r with
          | none =>
            rw [hp] at HS2
            have HN0 := Lib.hid (HFn.out HS2.out)
            apply wp_looseP (c0 := noSeason) ?pan 6 [.v _, .v _, .v _, .v _, .r (fun _ _ => False), .r (fun _ _ => True)] (by kernel_rfl) (by kernel_rfl) (by kernel_rfl) (by decide) rfl
            case pan =>
              intro b' w' hd hb
              exact ⟨hd, .inr ⟨HN0.out, rfl⟩, nextB H5.out.b hb⟩
            intro K hK
            apply OblP.val rfl
            · intro w' hb _; go_simp; rfl
            apply OblP.val rfl
            · intro w' hb _; have := (H5.out.keep hb).q.cell; go_simp; rfl
            apply OblP.val rfl
            · intro w' hb _; go_simp; rfl
            apply OblP.val rfl
            · intro w' hb _; go_simp; rfl
            apply OblP.callP 167 (fun _ _ _ h _ => h) rfl
            · intro w' hb _; apply Exists.intro; apply And.intro; (go_simp; rfl); refine (HPc.out (some ⟨g2, 1, none⟩) w' (own_tail (O5.out.keep hb) HNr.out (by omega))).mono ?_
              rintro e w2 ⟨he, hb2⟩
              rw [hp] at he
              exact ⟨.inr he, hb2⟩
            intro v4
            apply OblP.run (fun _ _ _ h _ => h) (by kernel_rfl)
            · intro w' hb hH
              exact (hH (4, _) (List.mem_cons_self ..) (by kernel_rfl)).elim
            intro v5
            apply OblP.nil
            apply hK
            intro w2 hb hH
            exact (hH (4, _) (List.mem_cons_of_mem _ (List.mem_cons_self ..))).elim
          | some p =>
            rw [hp] at HS2
            have HF2 := Lib.hid (HFs.out.trans HS2.out)
            have HO2 := Lib.hid (HOk.out _ HS2.out)
            obtain ⟨p0, p1, p2⟩ := p
            apply wp_loose 6 [.v _, .v _, .v _, .v _, .v (.agg #[.int .i64 p0, .int .i64 p1, .int .i64 p2]), .r (fun v W => ∃ b, v = .slice (some ⟨b, 0, none⟩) 1 1 ∧ Has W b 49 #[.int .i64 p0, .int .i64 p1, .int .i64 p2])] (by kernel_rfl) (by kernel_rfl) (by kernel_rfl) (by decide) rfl
            intro K hK
            apply OblS.val rfl
            · intro w' hb _; go_simp; rfl
            apply OblS.val rfl
            · intro w' hb _; have := (H5.out.keep hb).q.cell; go_simp; rfl
            apply OblS.val rfl
            · intro w' hb _; go_simp; rfl
            apply OblS.val rfl
            · intro w' hb _; go_simp; rfl
            apply OblS.call 167 rfl
            · intro w' hb _; apply Exists.intro; apply And.intro; (go_simp; rfl); refine (HPc.out (some ⟨g2, 1, none⟩) w' (own_tail (O5.out.keep hb) HNr.out (by omega))).mono ?_
              rintro e w2 ⟨he, hb2⟩
              rw [hp] at he
              exact ⟨he, hb2⟩
            refine OblS.run (by rintro v a b ⟨q, e, h⟩ hb; exact ⟨q, e, h.after hb⟩) (by kernel_rfl) (fun w' hb _ => ⟨_, _, (by kernel_rfl), ⟨w'.heap.size, rfl, Has.new w' 49 _⟩, newB (Below.refl _ _) _⟩) ?_
            intro v5
            apply OblS.nil
            apply hK
            intro w6 hb hH
            obtain ⟨q, rfl, hq⟩ := hH _ (List.mem_cons_self ..)
            have H6 := Lib.hid (H5.out.keep hb)
            have HQ := Lib.hid hq
            have HLn := Lib.hid (show ps.length ≤ 20000000 by have := HO.out.2.2.1; simp only at this; omega)
            clear hH hK K hb hq
            simp only [Act.put, List.setIfInBounds_toArray, List.set_cons_zero, List.set_cons_succ, List.drop_succ_cons, List.drop_zero]
            go_wp2_with (at_builtin; refine El.app1 eP_ok rfl _ _ rfl w.heap.size v1 ps rfl H6.out.ps HLn.out q ⟨p0, p1, p2⟩ rfl HQ.out H6.out.b.size ?_; intro v7 w7 ho7 hb7 hsp; obtain ⟨A7, c7, rfl, _, _⟩ := Own.sl ho7; have hl7 : (ps ++ [(⟨p0, p1, p2⟩ : Pe)]).length = ps.length + 1 := (by simp); rw [hl7] at ho7 ⊢; have H7 := Lib.hid (H6.out.addP ho7 hb7 hsp); have q7 := (hsp.has H6.out.q (by decide)).cell; have f7 := (hsp.has H6.out.q (by decide)).frozen; clear ho7 hb7 hsp)
            go_roundw
            case rel => exact ⟨k + 1, _, _, _, _, by omega, by go_num, HF2.out, HO2.out, H7.out⟩
            case measure => first | (simp [intOf]; done) | (simp [intOf]; omega)
        · have h1' : ¬ w0 = wLanding := by rw [h1]; decide
          have e2 : ¬ (bs w0).toList = [108, 97, 110, 100, 105, 110, 103] := fun h => h1' (eqw.1 h)
          have e2b : ((bs w0).toList == [108, 97, 110, 100, 105, 110, 103]) = false := by rw [beq_eq_false_iff_ne]; exact e2
          have HS2 := Lib.hid (show stepT (ps, ls) x = some (ps, ls) by rw [HSt.out, if_neg (fun h => h3 h.2), if_neg (fun h => h1' h.1)])
          clear HSt h1 h1'
          have HF2 := Lib.hid (HFs.out.trans HS2.out)
          have HO2 := Lib.hid (HOk.out _ HS2.out)
          have i1 : ¬ (n : Int) + 1 = 4 := by omega
          have i2 : ((n : Int) + 1 == 4) = false := by rw [beq_eq_false_iff_ne]; omega
          go_wp2_with (go_at_call 166; refine (HSx.out _).mono ?_; rintro e w5 ⟨g2, rfl, ho, hb⟩; have H5 := Lib.hid (HT.out.keep hb); have O5 := Lib.hid ho; have c0 : w5.cell? ⟨g2, 0, none⟩ = some (.string (bs w0)) := (by have := (own_words ho (by simp [← HNr.out])).range strC_len (k := 0) rfl 0 _ rfl; simpa using this); clear ho hb)
          go_roundw
          case rel => exact ⟨k + 1, _, _, _, _, by omega, by go_num, HF2.out, HO2.out, H5.out⟩
          case measure => first | (simp [intOf]; done) | (simp [intOf]; omega)
      · have e1 : ¬ (bs w0).toList = [112, 101, 114, 115, 111, 110] := fun h => h1 (eqw.1 h)
        have e1b : ((bs w0).toList == [112, 101, 114, 115, 111, 110]) = false := by rw [beq_eq_false_iff_ne]; exact e1
        by_cases h2 : w0 = wLanding
        · have e2 : (bs w0).toList = [108, 97, 110, 100, 105, 110, 103] := eqw.2 h2
          have e2b : ((bs w0).toList == [108, 97, 110, 100, 105, 110, 103]) = true := by rw [e2]; rfl
          by_cases h3 : 2 ≤ n
          · obtain ⟨d, rfl⟩ : ∃ d, n = d + 2 := ⟨n - 2, by omega⟩
            have HS2 := Lib.hid (show stepT (ps, ls) x = (parseLa r).map fun l => (ps, ls ++ [l]) by rw [HSt.out, if_neg (fun h => h1 h.1), if_pos ⟨h2, h3⟩])
            have HPc := Lib.hid fun (A : Option Addr) (W : World) (hs : SlOf strC 1 W A (d + 2) r) => landingOf_c A d r HNr.out.symm (by omega) (fun y hy => HWs.out y (List.mem_cons_of_mem _ hy)) W hs
            have i1 : (3 : Int) ≤ (d : Int) + 2 + 1 := by omega
            have i3 : (1 : Int) ≤ (d : Int) + 2 + 1 := by omega
            have i2 : ¬ (d : Int) + 2 + 1 < 3 := by omega
            clear HSt h1 h2
            go_wp2_with (go_at_call 166; refine (HSx.out _).mono ?_; rintro e w5 ⟨g2, rfl, ho, hb⟩; have H5 := Lib.hid (HT.out.keep hb); have O5 := Lib.hid ho; have c0 : w5.cell? ⟨g2, 0, none⟩ = some (.string (bs w0)) := (by have := (own_words ho (by simp [← HNr.out])).range strC_len (k := 0) rfl 0 _ rfl; simpa using this); clear ho hb)
            clear c0 e1 e1b e2 e2b cx i1 i2
            cases hp : parseLa r with
            | none =>
              rw [hp] at HS2
              have HN0 := Lib.hid (HFn.out HS2.out)
              apply wp_looseP (c0 := noSeason) ?pan 6 [.v _, .v _, .v _, .v _, .r (fun _ _ => False), .r (fun _ _ => True)] (by kernel_rfl) (by kernel_rfl) (by kernel_rfl) (by decide) rfl
              case pan =>
                intro b' w' hd hb
                exact ⟨hd, .inr ⟨HN0.out, rfl⟩, nextB H5.out.b hb⟩
              intro K hK
              apply OblP.val rfl
              · intro w' hb _; go_simp; rfl
              apply OblP.val rfl
              · intro w' hb _; have := (H5.out.keep hb).q.cell; go_simp; rfl
              apply OblP.val rfl
              · intro w' hb _; go_simp; rfl
              apply OblP.val rfl
              · intro w' hb _; go_simp; rfl
              apply OblP.callP 168 (fun _ _ _ h _ => h) rfl
              · intro w' hb _; apply Exists.intro; apply And.intro; (go_simp; rfl); refine (HPc.out (some ⟨g2, 1, none⟩) w' (own_tail (O5.out.keep hb) HNr.out (by omega))).mono ?_
                rintro e w2 ⟨he, hb2⟩
                rw [hp] at he
                exact ⟨.inr he, hb2⟩
              intro v4
              apply OblP.run (fun _ _ _ h _ => h) (by kernel_rfl)
              · intro w' hb hH
                exact (hH (4, _) (List.mem_cons_self ..) (by kernel_rfl)).elim
              intro v5
              apply OblP.nil
              apply hK
              intro w2 hb hH
              exact (hH (4, _) (List.mem_cons_of_mem _ (List.mem_cons_self ..))).elim
            | some p =>
              rw [hp] at HS2
              have HF2 := Lib.hid (HFs.out.trans HS2.out)
              have HO2 := Lib.hid (HOk.out _ HS2.out)
              obtain ⟨p0, p1, p2⟩ := p
              apply wp_loose 6 [.v _, .v _, .v _, .v _, .v (.agg #[.int .i64 p0, .int .i64 p1, .int .i64 p2]), .r (fun v W => ∃ b, v = .slice (some ⟨b, 0, none⟩) 1 1 ∧ Has W b 44 #[.int .i64 p0, .int .i64 p1, .int .i64 p2])] (by kernel_rfl) (by kernel_rfl) (by kernel_rfl) (by decide) rfl
              intro K hK
              apply OblS.val rfl
              · intro w' hb _; go_simp; rfl
              apply OblS.val rfl
              · intro w' hb _; have := (H5.out.keep hb).q.cell; go_simp; rfl
              apply OblS.val rfl
              · intro w' hb _; go_simp; rfl
              apply OblS.val rfl
              · intro w' hb _; go_simp; rfl
              apply OblS.call 168 rfl
              · intro w' hb _; apply Exists.intro; apply And.intro; (go_simp; rfl); refine (HPc.out (some ⟨g2, 1, none⟩) w' (own_tail (O5.out.keep hb) HNr.out (by omega))).mono ?_
                rintro e w2 ⟨he, hb2⟩
                rw [hp] at he
                exact ⟨he, hb2⟩
              refine OblS.run (by rintro v a b ⟨q, e, h⟩ hb; exact ⟨q, e, h.after hb⟩) (by kernel_rfl) (fun w' hb _ => ⟨_, _, (by kernel_rfl), ⟨w'.heap.size, rfl, Has.new w' 44 _⟩, newB (Below.refl _ _) _⟩) ?_
              intro v5
              apply OblS.nil
              apply hK
              intro w6 hb hH
              obtain ⟨q, rfl, hq⟩ := hH _ (List.mem_cons_self ..)
              have H6 := Lib.hid (H5.out.keep hb)
              have HQ := Lib.hid hq
              have HLn := Lib.hid (show ls.length ≤ 20000000 by have := HO.out.2.2.2; simp only at this; omega)
              clear hH hK K hb hq
              simp only [Act.put, List.setIfInBounds_toArray, List.set_cons_zero, List.set_cons_succ, List.drop_succ_cons, List.drop_zero]
              go_wp2_with (at_builtin; refine El.app1 eL_ok rfl _ _ rfl w.heap.size v2 ls rfl H6.out.ls HLn.out q ⟨p0, p1, p2⟩ rfl HQ.out H6.out.b.size ?_; intro v7 w7 ho7 hb7 hsp; obtain ⟨A7, c7, rfl, _, _⟩ := Own.sl ho7; have hl7 : (ls ++ [(⟨p0, p1, p2⟩ : La)]).length = ls.length + 1 := (by simp); rw [hl7] at ho7 ⊢; have H7 := Lib.hid (H6.out.addL ho7 hb7 hsp); have q7 := (hsp.has H6.out.q (by decide)).cell; have f7 := (hsp.has H6.out.q (by decide)).frozen; clear ho7 hb7 hsp)
              go_roundw
              case rel => exact ⟨k + 1, _, _, _, _, by omega, by go_num, HF2.out, HO2.out, H7.out⟩
              case measure => first | (simp [intOf]; done) | (simp [intOf]; omega)
          · have HS2 := Lib.hid (show stepT (ps, ls) x = some (ps, ls) by rw [HSt.out, if_neg (fun h => h1 h.1), if_neg (fun h => h3 h.2)])
            clear HSt h1 h2
            have HF2 := Lib.hid (HFs.out.trans HS2.out)
            have HO2 := Lib.hid (HOk.out _ HS2.out)
            have i1 : ¬ (3 : Int) ≤ (n : Int) + 1 := by omega
            have i2 : (n : Int) + 1 < 3 := by omega
            go_wp2_with (go_at_call 166; refine (HSx.out _).mono ?_; rintro e w5 ⟨g2, rfl, ho, hb⟩; have H5 := Lib.hid (HT.out.keep hb); have O5 := Lib.hid ho; have c0 : w5.cell? ⟨g2, 0, none⟩ = some (.string (bs w0)) := (by have := (own_words ho (by simp [← HNr.out])).range strC_len (k := 0) rfl 0 _ rfl; simpa using this); clear ho hb)
            go_roundw
            case rel => exact ⟨k + 1, _, _, _, _, by omega, by go_num, HF2.out, HO2.out, H5.out⟩
            case measure => first | (simp [intOf]; done) | (simp [intOf]; omega)
        · have e2 : ¬ (bs w0).toList = [108, 97, 110, 100, 105, 110, 103] := fun h => h2 (eqw.1 h)
          have e2b : ((bs w0).toList == [108, 97, 110, 100, 105, 110, 103]) = false := by rw [beq_eq_false_iff_ne]; exact e2
          have HS2 := Lib.hid (show stepT (ps, ls) x = some (ps, ls) by rw [HSt.out, if_neg (fun h => h1 h.1), if_neg (fun h => h2 h.1)])
          clear HSt h1 h2
          have HF2 := Lib.hid (HFs.out.trans HS2.out)
          have HO2 := Lib.hid (HOk.out _ HS2.out)
          go_wp2_with (go_at_call 166; refine (HSx.out _).mono ?_; rintro e w5 ⟨g2, rfl, ho, hb⟩; have H5 := Lib.hid (HT.out.keep hb); have O5 := Lib.hid ho; have c0 : w5.cell? ⟨g2, 0, none⟩ = some (.string (bs w0)) := (by have := (own_words ho (by simp [← HNr.out])).range strC_len (k := 0) rfl 0 _ rfl; simpa using this); clear ho hb)
          go_roundw
          case rel => exact ⟨k + 1, _, _, _, _, by omega, by go_num, HF2.out, HO2.out, H5.out⟩
          case measure => first | (simp [intOf]; done) | (simp [intOf]; omega)
    · have hke : k = m := by omega
      subst hke
      have hf := HF.out
      rw [List.take_of_length_le (by rw [HM.out]; exact Nat.le_refl _)] at hf
      obtain ⟨A1, c1, rfl, hs1, _⟩ := Own.sl HT.out.ps
      obtain ⟨A2, c2, rfl, hs2, _⟩ := Own.sl HT.out.ls
      obtain ⟨o1, o2, o3, o4⟩ := HO.out
      simp only at o1 o2 o3 o4
      have HIn := Lib.hid (show (Sv.mk A1 A2 ps.length c1 ls.length c2 ps ls).In wr from ⟨hs1, hs2⟩)
      have HTx := Lib.hid (textOf_c ⟨A1, A2, ps.length, c1, ls.length, c2, ps, ls⟩ o1 o2 (by simp only; omega) (by simp only; omega) wr HIn.out (HI.out.keep HT.out.b))
      simp only [Sv.val] at HTx
      have htd : toldF text = if textF ps ls = text then some (ps, ls) else none := by unfold toldF; rw [← HL.out, hf]
      clear hs1 hs2 o1 o2
      by_cases heq : textF ps ls = text
      · rw [if_pos heq] at htd
        have HTd := Lib.hid htd
        have e1 : ((bs (textF ps ls)).toList == (bs text).toList) = true := by rw [heq]; exact beq_self_eq_true _
        clear htd heq hf
        generalize textF ps ls = tx at *
        go_wp2_with (first
          | (go_at_call 117; refine HTx.out.mono ?_; rintro e w5 ⟨rfl, hb⟩; have H5 := Lib.hid (HT.out.keep hb); have HI5 := Lib.hid (HIn.out.keep hb); clear hb)
          | (refine wpList_load_row rfl 25 _ rfl (w.heap.size + 1) rfl 25 _ (0, 0) _ H5.out.q Tryz.underlying25 rfl (by kernel_rfl) ?_)
          | (refine wpList_load_row rfl 25 _ rfl (w.heap.size + 1) rfl 25 _ (0, 0) _ HT.out.q Tryz.underlying25 rfl (by kernel_rfl) ?_)
          | (refine wpList_store_all rfl 25 _ _ rfl w.heap.size rfl _ rfl 25 _ H5.out.t (by kernel_rfl) rfl (by simp [Value.oneCell']) ?_))
        have hp9 := H5.out.ps.setRowFar H5.out.t (by decide) #[.slice A1 ps.length c1, .slice A2 ls.length c2]
        have hl9 := H5.out.ls.setRowFar H5.out.t (by decide) #[.slice A1 ps.length c1, .slice A2 ls.length c2]
        exact bodyPost_ret (results_cell_row Tryz.results120 _ _ w.heap.size 25 _ (0, 0) _ rfl (H5.out.t.setRow _) Tryz.underlying25 rfl (by kernel_rfl)) rfl ⟨.inl ⟨A1, A2, c1, c2, ps, ls, HTd.out, rfl, hp9, hl9, by omega, by omega⟩, rowB H5.out.b (Nat.le_refl _) _⟩
      · rw [if_neg heq] at htd
        have HTd := Lib.hid htd
        have e1 : ((bs (textF ps ls)).toList == (bs text).toList) = false := by
          rw [beq_eq_false_iff_ne, ByteArray.toList_eq, ByteArray.toList_eq, bs_list, bs_list]; exact heq
        clear htd heq hf
        generalize textF ps ls = tx at *
        go_wp2_with (first
          | (go_at_call 117; refine HTx.out.mono ?_; rintro e w5 ⟨rfl, hb⟩; have H5 := Lib.hid (HT.out.keep hb); clear hb)
          | (refine wpList_load_row rfl 25 _ rfl (w.heap.size + 1) rfl 25 _ (0, 0) _ HT.out.q Tryz.underlying25 rfl (by kernel_rfl) ?_))
        exact ⟨rfl, .inr ⟨HTd.out, rfl⟩, H5.out.b⟩
end Go.Proofs
namespace Go.Proofs
open Go.RowKit Go.Shelf
attribute [local go_sem ↓] Go.wp_at_zero Go.wp_at_succ

/-- Where nothing panicked, attempt's deferred closure does nothing. -/
theorem idle_c (p : Addr) (w : World) : CallsD Tryz.prog 165 #[.pointer (some p)] .returning w fun e u' w' => (∃ v, e = .returned v) ∧ u' = .returning ∧ w' = w := by
  refine callsD_of_wpS Tryz.func165 rfl fun c₀ cs hu => ?_
  apply wpS_seq
  apply wpS_region
  simp [wpOpsS, go_sem, recoverD, hu, Tryz.ntmps165, Exit.thenS]
  refine wpS_of_wp ?_
  simp only [Array.replicate_succ, Array.replicate_zero, List.push_toArray, List.append_toArray, List.nil_append, List.cons_append, List.setIfInBounds_toArray, List.set_cons_zero, List.set_cons_succ]
  go_wp2

  cases c₀
  simp_all [bodyPostS, results, Tryz.results165]
theorem attempt_c (gc : FuncId) (cap : Array Value) (eg : ∀ args w, (callFunc gc args).run Tryz.prog w = .ok (.enter gc args) w) (w : World) (Rr : World → Prop)
    (hf : Calls Tryz.prog gc cap (w.alloc (.cells #[.int .i64 0] 28)) fun e w' => (∃ v, e = .returned v) ∧ Rr w' ∧ Has w' w.heap.size 28 #[.int .i64 0]) :
    Calls Tryz.prog 118 #[.func (.func gc) #[] cap] w fun e w' => e = .returned (.int .i64 0) ∧ ∃ w1, Rr w1 ∧ w' = w1.setCell ⟨w.heap.size, 0, none⟩ (.int .i64 0) := by
  have HF := Lib.hid hf
  clear hf
  have hmf : ∀ (fn : Fn) (first cap : Array Value) (w : World), (Instr.makeFunc fn first cap).run Tryz.prog w = .ok (.func fn first cap) w := fun _ _ _ _ => rfl
  go_enter_defers Tryz.func118, Tryz.ntmps118
  go_wp2_with (refine HF.out.mono ?_; rintro e w1 ⟨⟨v, rfl⟩, hR, hH⟩; have HR := Lib.hid hR; have HH := Lib.hid hH; have c1 := hH.cell; have f1 := hH.frozen; clear hR hH)
  refine leaves_cons (f := 165) (args := #[.pointer (some ⟨w.heap.size, 0, none⟩)]) (by simp) (by simp [go_sem]) ?_
  refine (idle_c _ _).mono ?_
  rintro e u' w'' ⟨⟨v', rfl⟩, rfl, rfl⟩
  have hq := (HH.out.set 0 (.int .i64 0)).cell 0
  have hq' : (w1.setCell ⟨w.heap.size, 0, none⟩ (.int .i64 0)).cell? ⟨w.heap.size, 0, none⟩ = some (.int .i64 0) := hq
  exact ⟨.int .i64 0, by simp [results, Tryz.results118, go_sem, hq'], rfl, w1, HR.out, rfl⟩

set_option maxRecDepth 50000 in
/-- Where something gave up with noSeason, attempt's deferred closure recovers, and lays the error of a text. -/
theorem catchS_c (g : Nat) (x : Int) (older : List PanicEntry) (w : World) (h : Has w g 28 #[.int .i64 x]) :
    CallsD Tryz.prog 165 #[.pointer (some ⟨g, 0, none⟩)] (.panicking ({ v := .iface 177 (.agg #[]), recovered := false } :: older)) w fun e u' w' =>
      (∃ v, e = .returned v) ∧ u' = .panicking ({ v := .iface 177 (.agg #[]), recovered := true } :: older) ∧ w' = (w.alloc (.cells #[] 177)).setCell ⟨g, 0, none⟩ (.int .i64 4) := by
  refine callsD_of_wpS Tryz.func165 rfl fun c₀ cs hu => ?_
  apply wpS_seq
  apply wpS_region
  simp [wpOpsS, go_sem, recoverD, hu, Tryz.ntmps165, Exit.thenS]
  refine wpS_of_wp ?_
  simp only [Array.replicate_succ, Array.replicate_zero, List.push_toArray, List.append_toArray, List.nil_append, List.cons_append, List.setIfInBounds_toArray, List.set_cons_zero, List.set_cons_succ]
  have hta2 : ∀ w : World, (Instr.typeAssert (.iface 177 (.agg #[])) 20 177 true).run Tryz.prog w = .ok (.tuple #[.agg #[], .bool true]) w := fun w => by
    simp [Instr.typeAssert, go_sem]
  have hc := (h.alloc (.cells #[] 177)).cell
  have hf := (h.alloc (.cells #[] 177)).frozen
  go_wp2
  cases c₀
  simp_all [bodyPostS, results, Tryz.results165]
theorem attempt_p (gc : FuncId) (cap : Array Value) (eg : ∀ args w, (callFunc gc args).run Tryz.prog w = .ok (.enter gc args) w) (w : World) (Rr : World → Prop)
    (hf : Calls Tryz.prog gc cap (w.alloc (.cells #[.int .i64 0] 28)) fun e w' => e = .panicked noSeason ∧ Rr w' ∧ Has w' w.heap.size 28 #[.int .i64 0]) :
    Calls Tryz.prog 118 #[.func (.func gc) #[] cap] w fun e w' => e = .returned (.int .i64 4) ∧ ∃ w1, Rr w1 ∧ Has w1 w.heap.size 28 #[.int .i64 0] ∧ w' = (w1.alloc (.cells #[] 177)).setCell ⟨w.heap.size, 0, none⟩ (.int .i64 4) := by
  have HF := Lib.hid hf
  clear hf
  have hmf : ∀ (fn : Fn) (first cap : Array Value) (w : World), (Instr.makeFunc fn first cap).run Tryz.prog w = .ok (.func fn first cap) w := fun _ _ _ _ => rfl
  unfold noSeason at HF
  go_enter_defers Tryz.func118, Tryz.ntmps118
  go_wp2_with (refine HF.out.mono ?_; rintro e w1 ⟨rfl, hR, hH⟩; have HR := Lib.hid hR; have HH := Lib.hid hH; have c1 := hH.cell; have f1 := hH.frozen; clear hR hH)
  refine leaves_cons (f := 165) (args := #[.pointer (some ⟨w.heap.size, 0, none⟩)]) (by simp) (by simp [go_sem]) ?_
  refine (catchS_c w.heap.size 0 [] w1 HH.out).mono ?_
  rintro e u' w'' ⟨⟨v', rfl⟩, rfl, rfl⟩
  have hq := ((HH.out.alloc (.cells #[] 177)).set 0 (.int .i64 4)).cell 0
  have hq' : ((w1.alloc (.cells #[] 177)).setCell ⟨w.heap.size, 0, none⟩ (.int .i64 4)).cell? ⟨w.heap.size, 0, none⟩ = some (.int .i64 4) := hq
  exact ⟨.int .i64 4, by simp [results, Tryz.results118, go_sem, hq'], rfl, w1, HR.out, HH.out, rfl⟩
end Go.Proofs
namespace Go.Proofs
open Go.RowKit Go.Shelf
attribute [local go_sem ↓] Go.wp_at_zero Go.wp_at_succ

theorem told_s (text : List UInt8) (hlen : text.length ≤ 999) (ps : List Pe) (ls : List La) (ht : toldF text = some (ps, ls)) (w : World) (hI : ItoaAll w) :
    Calls Tryz.prog 120 #[.string (bs text)] w fun e w' => ∃ (A1 A2 : Option Addr) (c1 c2 : Nat), e = .returned (.agg #[.slice A1 ps.length c1, .slice A2 ls.length c2]) ∧ (Own eP w.heap.size (.slice A1 ps.length c1) ps w' ∧ Own eL w.heap.size (.slice A2 ls.length c2) ls w' ∧ ps.length ≤ 1000 ∧ ls.length ≤ 1000) ∧ Below w.heap.size w w' :=
  (told_c text hlen w hI).mono fun e w' ⟨h, hb⟩ => by
    rcases h with ⟨A1, A2, c1, c2, ps', ls', hf, he, h3⟩ | ⟨hf, _⟩
    · rw [ht] at hf; cases hf; exact ⟨A1, A2, c1, c2, he, h3, hb⟩
    · rw [ht] at hf; cases hf
theorem told_n (text : List UInt8) (hlen : text.length ≤ 999) (ht : toldF text = none) (w : World) (hI : ItoaAll w) :
    Calls Tryz.prog 120 #[.string (bs text)] w fun e w' => e = .panicked noSeason ∧ Below w.heap.size w w' :=
  (told_c text hlen w hI).mono fun e w' ⟨h, hb⟩ => by
    rcases h with ⟨A1, A2, c1, c2, ps', ls', hf, he, h3⟩ | ⟨_, he⟩
    · rw [ht] at hf; cases hf
    · exact ⟨he, hb⟩
theorem read1_c (text : List UInt8) (hlen : text.length ≤ 999) (ps : List Pe) (ls : List La) (ht : toldF text = some (ps, ls)) (tb rb : Nat) (w : World) (hI : ItoaAll w) (h1 : Has w tb 9 #[.string (bs text)]) (h2 : Has w rb 25 #[.slice none 0 0, .slice none 0 0]) :
    Calls Tryz.prog 119 #[.pointer (some ⟨tb, 0, none⟩), .pointer (some ⟨rb, 0, none⟩)] w fun e w' => (∃ v, e = .returned v) ∧ ∃ w1 A1 A2 c1 c2, Below w.heap.size w w1 ∧ Own eP w.heap.size (.slice A1 ps.length c1) ps w1 ∧ Own eL w.heap.size (.slice A2 ls.length c2) ls w1 ∧ (ps.length ≤ 1000 ∧ ls.length ≤ 1000) ∧ w' = w1.setRow rb #[.slice A1 ps.length c1, .slice A2 ls.length c2] := by
  have HT := Lib.hid (told_s text hlen ps ls ht w hI)
  have H2 := Lib.hid h2
  have ct := h1.cell 0
  clear ht hI h1 h2
  go_enter Tryz.func119, Tryz.ntmps119
  go_wp2_with (first
    | (go_at_call 120; refine HT.out.mono ?_; rintro e w1 ⟨A1, A2, c1, c2, rfl, ⟨h3, h4, h5, h6⟩, hb⟩; have H3 := Lib.hid h3; have H4 := Lib.hid h4; have H5 := Lib.hid h5; have H6 := Lib.hid h6; have HB := Lib.hid hb; have HR := Lib.hid (H2.out.after hb); clear h3 h4 h5 h6 hb)
    | (refine wpList_store_all rfl 25 _ _ rfl rb rfl _ rfl 25 _ HR.out (by kernel_rfl) rfl (by simp [Value.oneCell']) ?_))
  go_end0
  exact ⟨⟨_, rfl⟩, w1, HB.out, A1, A2, c1, H3.out, c2, H4.out, ⟨H5.out, H6.out⟩, rfl⟩
theorem read1_p (text : List UInt8) (hlen : text.length ≤ 999) (ht : toldF text = none) (tb rb : Nat) (w : World) (hI : ItoaAll w) (h1 : Has w tb 9 #[.string (bs text)]) :
    Calls Tryz.prog 119 #[.pointer (some ⟨tb, 0, none⟩), .pointer (some ⟨rb, 0, none⟩)] w fun e w' => e = .panicked noSeason ∧ Below w.heap.size w w' := by
  have HT := Lib.hid (told_n text hlen ht w hI)
  have ct := h1.cell 0
  clear ht hI h1
  go_enter Tryz.func119, Tryz.ntmps119
  go_wp2_with (go_at_call 120; refine HT.out.mono ?_; rintro e w1 ⟨rfl, hb⟩; have HB := Lib.hid hb; clear hb)
  exact ⟨rfl, rfl, HB.out⟩
/-- What Read answers: the season, and the error. -/
def readF (text : List UInt8) : (List Pe × List La) × Int := if 400 < text.length then (([], []), 3) else match toldF text with | none => (([], []), 4) | some b => if seasonB b.1 b.2 then (b, 0) else (([], []), 2)
end Go.Proofs
namespace Go.Proofs
open Go.RowKit Go.Shelf
attribute [local go_sem ↓] Go.wp_at_zero Go.wp_at_succ

def ReadP (b : List Pe × List La) (k : Int) (B : Nat) (e : Ending) (w' : World) : Prop :=
  ∃ (A1 A2 : Option Addr) (c1 c2 : Nat), e = .returned (.tuple #[.agg #[.slice A1 b.1.length c1, .slice A2 b.2.length c2], .int .i64 k]) ∧ Own eP B (.slice A1 b.1.length c1) b.1 w' ∧ Own eL B (.slice A2 b.2.length c2) b.2 w'
abbrev zS : Array Value := #[.slice none 0 0, .slice none 0 0]

set_option maxHeartbeats 2000000 in
theorem Read_c (text : List UInt8) (w : World) (hI : ItoaAll w) :
    Calls Tryz.prog 71 #[.string (bs text)] w fun e w' => ReadP (readF text).1 (readF text).2 w.heap.size e w' ∧ Below w.heap.size w w' := by
  have T0 := Lib.hid ((Has.new w 9 #[.string (bs text)]).alloc (.cells #[.slice none 0 0, .slice none 0 0] 25))
  have R0 := Lib.hid (Has.new' (w.alloc (.cells #[.string (bs text)] 9)) 25 #[.slice none 0 0, .slice none 0 0] (g := w.heap.size + 1) (by simp))
  have B0 := Lib.hid (newB (newB (Below.refl w.heap.size w) (.cells #[.string (bs text)] 9)) (.cells #[.slice none 0 0, .slice none 0 0] 25))
  by_cases h2 : 400 < text.length
  · have z1 : (400 : Int) < ((bs text).size : Int) := by rw [bs_size]; omega
    have HE := Lib.hid (show readF text = (([], []), 3) by simp [readF, h2])
    rw [HE.out]
    clear hI HE
    have ct := T0.out.cell 0
    go_enter Tryz.func71, Tryz.ntmps71
    go_wp2_with (refine wpList_store_all rfl 25 _ _ rfl (w.heap.size + 1) rfl _ rfl 25 _ R0.out (by kernel_rfl) rfl (by simp [Value.oneCell']) ?_)
    exact bodyPost_ret (results_row_tmp Tryz.results71 _ _ (w.heap.size + 1) 25 _ (0, 0) _ rfl (R0.out.setRow _) Tryz.underlying25 rfl (by kernel_rfl)) rfl ⟨⟨none, none, 0, 0, rfl, Own.nil _ _ _, Own.nil _ _ _⟩, rowB B0.out (by omega) _⟩
  · have z1 : ¬ (400 : Int) < ((bs text).size : Int) := by rw [bs_size]; omega
    have T1 := Lib.hid (T0.out.alloc (.cells #[.slice none 0 0, .slice none 0 0] 25))
    have R1 := Lib.hid (R0.out.alloc (.cells #[.slice none 0 0, .slice none 0 0] 25))
    have S1 := Lib.hid (Has.new' ((w.alloc (.cells #[.string (bs text)] 9)).alloc (.cells #[.slice none 0 0, .slice none 0 0] 25)) 25 #[.slice none 0 0, .slice none 0 0] (g := w.heap.size + 1 + 1) (by simp))
    have B1 := Lib.hid (newB B0.out (.cells #[.slice none 0 0, .slice none 0 0] 25))
    have hsz : (((w.alloc (.cells #[.string (bs text)] 9)).alloc (.cells #[.slice none 0 0, .slice none 0 0] 25)).alloc (.cells #[.slice none 0 0, .slice none 0 0] 25)).heap.size = w.heap.size + 1 + 1 + 1 := by simp
    have hmf : ∀ (fn : Fn) (first cap : Array Value) (w : World), (Instr.makeFunc fn first cap).run Tryz.prog w = .ok (.func fn first cap) w := fun _ _ _ _ => rfl
    have ct := T0.out.cell 0
    cases ht : toldF text with
    | none =>
      have HE := Lib.hid (show readF text = (([], []), 4) by simp [readF, h2, ht])
      rw [HE.out]
      have HC := Lib.hid fun (W : World) (hb : Below w.heap.size w W) (hw : W.heap.size = w.heap.size + 1 + 1 + 1) (h1 : Has W w.heap.size 9 #[.string (bs text)]) =>
        attempt_p 119 #[.pointer (some ⟨w.heap.size, 0, none⟩), .pointer (some ⟨w.heap.size + 1 + 1, 0, none⟩)] (enters_of Tryz.func119 (by kernel_rfl) rfl) W (fun w' => Below (W.alloc (.cells #[.int .i64 0] 28)).heap.size (W.alloc (.cells #[.int .i64 0] 28)) w')
          ((read1_p text (by omega) ht w.heap.size (w.heap.size + 1 + 1) (W.alloc (.cells #[.int .i64 0] 28)) (hI.keep (newB hb _)) (h1.alloc _)).mono fun e w' ⟨q1, q2⟩ => ⟨q1, q2, (Has.new W 28 _).after q2⟩)
      clear hI ht HE
      go_enter Tryz.func71, Tryz.ntmps71
      go_wp2_with (first
        | (go_at_call 118; refine (HC.out _ B1.out hsz T1.out).mono ?_; rintro e w4 ⟨rfl, w1, hb1, hh1, rfl⟩; have hb2 := newB (Below.refl _ _) (.cells #[.int .i64 0] 28) |>.trans (hb1.mono (by simp)); have HB := Lib.hid (setB (newB (nextB B1.out hb2) (.cells #[] 177)) (p := ⟨w.heap.size + 1 + 1 + 1, 0, none⟩) (by show w.heap.size ≤ w.heap.size + 1 + 1 + 1; omega) (.int .i64 4)); have R2 := Lib.hid (((R1.out.after hb2).alloc (.cells #[] 177)).far (p := ⟨w.heap.size + 1 + 1 + 1, 0, none⟩) (by show w.heap.size + 1 ≠ w.heap.size + 1 + 1 + 1; omega) (.int .i64 4)); clear hb1 hb2 hh1)
        | (refine wpList_store_all rfl 25 _ _ rfl (w.heap.size + 1) rfl _ rfl 25 _ R2.out (by kernel_rfl) rfl (by simp [Value.oneCell']) ?_))
      exact bodyPost_ret (results_row_tmp Tryz.results71 _ _ (w.heap.size + 1) 25 _ (0, 0) _ rfl (R2.out.setRow _) Tryz.underlying25 rfl (by kernel_rfl)) rfl ⟨⟨none, none, 0, 0, rfl, Own.nil _ _ _, Own.nil _ _ _⟩, rowB HB.out (by omega) _⟩
    | some b =>
      obtain ⟨ps, ls⟩ := b
      have HE := Lib.hid (show readF text = if seasonB ps ls then ((ps, ls), 0) else (([], []), 2) by simp [readF, h2, ht])
      have HC := Lib.hid fun (W : World) (hb : Below w.heap.size w W) (hw : W.heap.size = w.heap.size + 1 + 1 + 1) (h1 : Has W w.heap.size 9 #[.string (bs text)]) (h4 : Has W (w.heap.size + 1 + 1) 25 #[.slice none 0 0, .slice none 0 0]) =>
        attempt_c 119 #[.pointer (some ⟨w.heap.size, 0, none⟩), .pointer (some ⟨w.heap.size + 1 + 1, 0, none⟩)] (enters_of Tryz.func119 (by kernel_rfl) rfl) W (fun w' => ∃ w1 A1 A2 c1 c2, Below (W.alloc (.cells #[.int .i64 0] 28)).heap.size (W.alloc (.cells #[.int .i64 0] 28)) w1 ∧ Own eP (W.alloc (.cells #[.int .i64 0] 28)).heap.size (.slice A1 ps.length c1) ps w1 ∧ Own eL (W.alloc (.cells #[.int .i64 0] 28)).heap.size (.slice A2 ls.length c2) ls w1 ∧ (ps.length ≤ 1000 ∧ ls.length ≤ 1000) ∧ w' = w1.setRow (w.heap.size + 1 + 1) #[.slice A1 ps.length c1, .slice A2 ls.length c2])
          ((read1_c text (by omega) ps ls ht w.heap.size (w.heap.size + 1 + 1) (W.alloc (.cells #[.int .i64 0] 28)) (hI.keep (newB hb _)) (h1.alloc _) (h4.alloc _)).mono fun e w' ⟨q1, w1, A1, A2, c1, c2, q2, q3, q4, q5, q6⟩ => ⟨q1, ⟨w1, A1, A2, c1, c2, q2, q3, q4, q5, q6⟩, by rw [q6]; exact ((Has.new W 28 _).after q2).setRow_far (by rw [hw]; omega) _⟩)
      have HC2 := Lib.hid fun (W : World) (hb : Below w.heap.size w W) (hw : W.heap.size = w.heap.size + 1 + 1 + 1) (h1 : Has W w.heap.size 9 #[.string (bs text)]) (h3 : Has W (w.heap.size + 1) 25 #[.slice none 0 0, .slice none 0 0]) (h4 : Has W (w.heap.size + 1 + 1) 25 #[.slice none 0 0, .slice none 0 0]) =>
        (HC.out W hb hw h1 h4).mono fun e w4 ⟨he, w2, ⟨w1, A1, A2, c1, c2, hb1, ho1, ho2, hl, e1⟩, e2⟩ => (show e = Ending.returned (.int .i64 0) ∧ ∃ A1 A2 c1 c2, (Own eP w.heap.size (.slice A1 ps.length c1) ps w4 ∧ Own eL w.heap.size (.slice A2 ls.length c2) ls w4 ∧ (ps.length ≤ 1000 ∧ ls.length ≤ 1000) ∧ Has w4 (w.heap.size + 1 + 1) 25 #[.slice A1 ps.length c1, .slice A2 ls.length c2] ∧ Has w4 (w.heap.size + 1) 25 #[.slice none 0 0, .slice none 0 0]) ∧ Below w.heap.size w w4 from by
          have hb2 := (newB (Below.refl _ _) (.cells #[.int .i64 0] 28)).trans (hb1.mono (by simp) : Below W.heap.size _ w1)
          have hS := h4.after hb2
          have hE := (Has.new W 28 #[.int .i64 0]).after hb1
          have hE2 := hE.setRow_far (k := w.heap.size + 1 + 1) (by rw [hw]; omega) #[.slice A1 ps.length c1, .slice A2 ls.length c2]
          have hle : w.heap.size ≤ (W.alloc (.cells #[.int .i64 0] 28)).heap.size := (newB hb _).size
          rw [hw] at e2 hE2
          subst e1
          subst e2
          exact ⟨he, A1, A2, c1, c2, ⟨((ho1.lower hle).setRowFar hS (by decide) _).setFar hE2 (by decide) _, ((ho2.lower hle).setRowFar hS (by decide) _).setFar hE2 (by decide) _, hl,
            (hS.setRow _).far (p := ⟨w.heap.size + 1 + 1 + 1, 0, none⟩) (by show w.heap.size + 1 + 1 ≠ w.heap.size + 1 + 1 + 1; omega) _,
            ((h3.after hb2).setRow_far (by omega) _).far (p := ⟨w.heap.size + 1 + 1 + 1, 0, none⟩) (by show w.heap.size + 1 ≠ w.heap.size + 1 + 1 + 1; omega) _⟩,
            setB (rowB (nextB hb hb2) (by omega) _) (p := ⟨w.heap.size + 1 + 1 + 1, 0, none⟩) (by show w.heap.size ≤ w.heap.size + 1 + 1 + 1; omega) _⟩)
      have HCk := Lib.hid fun (A1 A2 : Option Addr) (c1 c2 : Nat) (W : World) (h1 : Own eP w.heap.size (.slice A1 ps.length c1) ps W) (h2 : Own eL w.heap.size (.slice A2 ls.length c2) ls W) (h3 : ps.length ≤ 1000) (h4 : ls.length ≤ 1000) => check_c ⟨A1, A2, ps.length, c1, ls.length, c2, ps, ls⟩ (by simp only; omega) (by simp only; omega) W ⟨own_sl0 h1 rfl, own_sl0 h2 rfl⟩
      simp only [Sv.val] at HCk
      clear HC hI ht
      generalize readF text = res at *
      cases hs : seasonB ps ls
      · rw [hs] at HE HCk
        clear hs
        rw [if_neg (by simp)] at HE
        go_enter Tryz.func71, Tryz.ntmps71
        go_wp2_with (first
          | (go_at_call 118; refine (HC2.out _ B1.out hsz T1.out R1.out S1.out).mono ?_; rintro e w4 ⟨rfl, A1, A2, c1, c2, ⟨ho1, ho2, hl, hS, hR⟩, hb⟩; have O1 := Lib.hid ho1; have O2 := Lib.hid ho2; have S4 := Lib.hid hS; have R4 := Lib.hid hR; have B4 := Lib.hid hb; have HCw := Lib.hid (HCk.out A1 A2 c1 c2 w4 ho1 ho2 hl.1 hl.2); clear ho1 ho2 hl hS hR hb)
          | (refine wpList_load_row rfl 25 _ rfl (w.heap.size + 1 + 1) rfl 25 _ (0, 0) _ S4.out Tryz.underlying25 rfl (by kernel_rfl) ?_)
          | (go_at_call 25; refine HCw.out.mono ?_; rintro e w5 ⟨rfl, hb⟩; rw [show errI false = 2 from rfl]; have R5 := Lib.hid (R4.out.after hb); have B5 := Lib.hid (nextB B4.out hb); clear hb)
          | (refine wpList_store_all rfl 25 _ _ rfl (w.heap.size + 1) rfl _ rfl 25 _ R5.out (by kernel_rfl) rfl (by simp [Value.oneCell']) ?_))
        exact bodyPost_ret (results_row_tmp Tryz.results71 _ _ (w.heap.size + 1) 25 _ (0, 0) _ rfl (R5.out.setRow _) Tryz.underlying25 rfl (by kernel_rfl)) rfl ⟨by rw [HE.out]; exact ⟨none, none, 0, 0, rfl, Own.nil _ _ _, Own.nil _ _ _⟩, rowB B5.out (by omega) _⟩
      · rw [hs] at HE HCk
        clear hs
        rw [if_pos rfl] at HE
        go_enter Tryz.func71, Tryz.ntmps71
        go_wp2_with (first
          | (go_at_call 118; refine (HC2.out _ B1.out hsz T1.out R1.out S1.out).mono ?_; rintro e w4 ⟨rfl, A1, A2, c1, c2, ⟨ho1, ho2, hl, hS, hR⟩, hb⟩; have O1 := Lib.hid ho1; have O2 := Lib.hid ho2; have S4 := Lib.hid hS; have R4 := Lib.hid hR; have B4 := Lib.hid hb; have HCw := Lib.hid (HCk.out A1 A2 c1 c2 w4 ho1 ho2 hl.1 hl.2); clear ho1 ho2 hl hS hR hb)
          | (go_at_call 25; refine HCw.out.mono ?_; rintro e w5 ⟨rfl, hb⟩; rw [show errI true = 0 from rfl]; have R5 := Lib.hid (R4.out.after hb); have S5 := Lib.hid (S4.out.after hb); have P5 := Lib.hid (O1.out.keep hb); have L5 := Lib.hid (O2.out.keep hb); have B5 := Lib.hid (nextB B4.out hb); clear hb)
          | (refine wpList_load_row rfl 25 _ rfl (w.heap.size + 1 + 1) rfl 25 _ (0, 0) _ S5.out Tryz.underlying25 rfl (by kernel_rfl) ?_)
          | (refine wpList_load_row rfl 25 _ rfl (w.heap.size + 1 + 1) rfl 25 _ (0, 0) _ S4.out Tryz.underlying25 rfl (by kernel_rfl) ?_)
          | (refine wpList_store_all rfl 25 _ _ rfl (w.heap.size + 1) rfl _ rfl 25 _ R5.out (by kernel_rfl) rfl (by simp [Value.oneCell']) ?_))
        exact bodyPost_ret (results_row_tmp Tryz.results71 _ _ (w.heap.size + 1) 25 _ (0, 0) _ rfl (R5.out.setRow _) Tryz.underlying25 rfl (by kernel_rfl)) rfl ⟨by rw [HE.out]; exact ⟨A1, A2, c1, c2, rfl, P5.out.setRowFar R5.out (by decide) _, L5.out.setRowFar R5.out (by decide) _⟩, rowB B5.out (by omega) _⟩
end Go.Proofs
