/-
  Laws for regions that draw their order and for ranges over functions, with the contract of each, where rates are as defined.
-/
import Derived.Test.YtahochgbkhpefabGreatDoorP1
import Derived.OrdersIn
import Derived.StillTail
import Derived.RangeFuncCalls
import Derived.RangeFuncNested
import Derived.RangeFuncLeaves
import Derived.RangeFuncBound
import Derived.OwnWalkIn
import Derived.TacticsInMore
import Derived.LoopNIn
import Derived.LoopIn
import Derived.Laws.StructEq
import Derived.RangeFuncBox
import Derived.Shelf.Abstract
import Derived.WalkKit
namespace Go.Proofs
open Go.RowKit
section
variable {P : Program} {ops : Array Oper}

def dstOf (ops : Array Oper) (i : Nat) : Option Tmp := (ops[i]?).bind (·.dst)
def waits (o : Oper) (j : Nat) : Bool := o.after.any fun e => Region.binds .any e && e.on == j

theorem waits_spec {o : Oper} {j : Nat} (h : waits o j = true) : ∃ e ∈ o.after, Region.binds .any e = true ∧ e.on = j := by
  unfold waits at h
  obtain ⟨e, he, hb⟩ := Array.any_eq_true'.1 h
  simp only [Bool.and_eq_true, beq_iff_eq] at hb
  exact ⟨e, he, hb.1, hb.2⟩

/-- The results that have been put. -/
def canon (ops : Array Oper) (vs : Nat → Value) (sel : Nat → Bool) (a : Act) : Nat → Act
  | 0 => a
  | k + 1 => if sel k then (canon ops vs sel a k).put (dstOf ops k) (vs k) else canon ops vs sel a k

theorem canon_congr {vs vs' : Nat → Value} {sel sel' : Nat → Bool} {a : Act} : ∀ m, (∀ j, j < m → sel j = sel' j ∧ (sel j = true → vs j = vs' j)) → canon ops vs sel a m = canon ops vs' sel' a m
  | 0, _ => rfl
  | k + 1, h => by
    have ih := canon_congr (a := a) k (fun j hj => h j (by omega))
    obtain ⟨h1, h2⟩ := h k (by omega)
    simp only [canon, ih]
    rw [← h1]
    by_cases hs : sel k = true
    · simp only [hs, if_true, h2 hs]
    · simp only [hs]; rfl

theorem canon_size {vs : Nat → Value} {sel : Nat → Bool} {a : Act} : ∀ m, (canon ops vs sel a m).tmps.size = a.tmps.size ∧ (canon ops vs sel a m).defers = a.defers
  | 0 => ⟨rfl, rfl⟩
  | k + 1 => by
    have ih := canon_size (vs := vs) (sel := sel) (a := a) k
    simp only [canon]
    split
    · cases hd : dstOf ops k with
      | none => simpa [Act.put] using ih
      | some d => simpa [Act.put] using ih
    · exact ih

/-- What a temporary holds hangs on those alone that write it. -/
theorem canon_tmp {vs vs' : Nat → Value} {sel sel' : Nat → Bool} {a : Act} {d : Tmp} : ∀ m, (∀ j, j < m → dstOf ops j = some d → sel j = sel' j ∧ (sel j = true → vs j = vs' j)) →
    (canon ops vs sel a m).tmps[d]? = (canon ops vs' sel' a m).tmps[d]?
  | 0, _ => rfl
  | k + 1, h => by
    have ih := canon_tmp (vs := vs) (vs' := vs') (sel := sel) (sel' := sel') (a := a) (d := d) k (fun j hj => h j (by omega))
    have s1 := (canon_size (ops := ops) (vs := vs) (sel := sel) (a := a) k).1
    have s2 := (canon_size (ops := ops) (vs := vs') (sel := sel') (a := a) k).1
    simp only [canon]
    by_cases hd : dstOf ops k = some d
    · obtain ⟨h1, h2⟩ := h k (by omega) hd
      rw [← h1]
      by_cases hs : sel k = true
      · simp only [hs, if_true, hd, Act.put, h2 hs, Array.getElem?_setIfInBounds, s1, s2]
      · simp only [hs]; exact ih
    · have e : ∀ (b : Act) (v : Value), (b.put (dstOf ops k) v).tmps[d]? = b.tmps[d]? := by
        intro b v
        cases hk : dstOf ops k with
        | none => rfl
        | some d' =>
          have hne : d' ≠ d := fun h' => hd (by rw [hk, h'])
          simp [Act.put, hne]
      split <;> split <;> (try rw [e]) <;> (try rw [e]) <;> exact ih

theorem canon_put {vs : Nat → Value} {sel : Nat → Bool} {a : Act} {i : Nat} (hs : sel i = false) : ∀ m, i < m → (∀ j, j < m → j ≠ i → ∀ d, dstOf ops j = some d → dstOf ops i ≠ some d) →
    canon ops vs (fun j => sel j || j == i) a m = (canon ops vs sel a m).put (dstOf ops i) (vs i)
  | 0, h, _ => by omega
  | k + 1, hi, hd => by
    by_cases hk : k = i
    · subst hk
      simp only [canon, hs, beq_self_eq_true, Bool.or_true, if_true, Bool.false_eq_true, if_false]
      congr 1
      exact canon_congr k (fun j hj => ⟨by simp; omega, fun _ => rfl⟩)
    · have ih := canon_put (a := a) (vs := vs) hs k (by omega) (fun j hj => hd j (by omega))
      simp only [canon, ih]
      have : (sel k || k == i) = sel k := by simp [hk]
      rw [this]
      split
      · rw [Act.put_comm]
        intro d hd1 hd2
        exact hd k (by omega) hk d hd2 hd1
      · rfl

/-- Whatever world lies above w0, the operation leaves v and makes memory at most. -/
def Mk (P : Program) (ops : Array Oper) (w0 : World) (o : Oper) (v : Value) (a : Act) : Prop :=
  (Region.wanted o (yielded ops a.tmps) = true ∧ ∀ w, Below w0.heap.size w0 w → ∀ K : Act → World → Prop, (∀ w', Below w.heap.size w w' → K (a.put o.dst v) w') → o.wp P a w K (fun _ _ _ => False)) ∨
  (Region.wanted o (yielded ops a.tmps) = false ∧ v = undef)

theorem Act.put_same {a b : Act} {d : Option Tmp} {u v : Value} (hs : a.tmps.size = b.tmps.size) (h : a.put d u = a.put d v) : b.put d u = b.put d v := by
  cases d with
  | none => rfl
  | some d =>
    by_cases hd : d < a.tmps.size
    · have h1 : (a.put (some d) u).tmps[d]? = (a.put (some d) v).tmps[d]? := by rw [h]
      have h2 : u = v := by simpa [Act.put, Array.getElem?_setIfInBounds, hd] using h1
      rw [h2]
    · have hd' : ¬ d < b.tmps.size := by rw [← hs]; exact hd
      simp [Act.put, Array.setIfInBounds, hd']

/-- One that makes memory at most, carried out where its operands hold the same. -/
theorem Mk.wpOp {w0 w : World} {i : Nat} {o : Oper} {v : Value} {a b : Act} (hi : ops[i]? = some o) (hs : a.tmps.size = b.tmps.size)
    (he : execOp b.eval o = execOp a.eval o) (hw : Region.wanted o (yielded ops b.tmps) = Region.wanted o (yielded ops a.tmps)) (h : Mk P ops w0 o v a) (hB : Below w0.heap.size w0 w)
    {K : Act → World → Prop} {Q : Exit → Act → World → Prop} (hK : ∀ w', Below w.heap.size w w' → K (b.put o.dst v) w') : Go.wpOp P ops Q i K b w := by
  unfold Go.wpOp
  simp only [hi]
  rcases h with ⟨h1, h2⟩ | ⟨h1, rfl⟩
  · rw [hw, if_pos h1]
    left
    have h3 := h2 w hB (fun a' w' => a' = a.put o.dst v ∧ Below w.heap.size w w') (fun w' hb => ⟨rfl, hb⟩)
    unfold Oper.wp at h3 ⊢
    rw [he]
    generalize (execOp a.eval o).run P w = r at h3 ⊢
    cases r with
    | ok n w' =>
      cases n <;> simp only [Oper.upon] at h3 ⊢ <;> first | exact h3.elim | skip
      case value u => rw [Act.put_same hs h3.1]; exact hK _ h3.2
      case skip => rw [Act.put_same hs h3.1]; exact hK _ h3.2
      case enter f args =>
        refine Calls.mono h3 (fun e w'' h4 => ?_)
        cases e with
        | returned u => simp only at h4 ⊢; rw [Act.put_same hs h4.1]; exact hK _ h4.2
        | panicked c => exact h4.elim
        | outgrown => obtain ⟨_, _, h5⟩ := h4; exact h5.elim
      case defer d =>
        exfalso
        have := congrArg Act.defers h3.1
        have e1 : ∀ (x : Act) (d : Option Tmp) (u : Value), (x.put d u).defers = x.defers := by intro x d u; cases d <;> rfl
        rw [e1, e1] at this
        exact absurd (congrArg List.length this) (by simp)
      case row row args =>
        refine Rows.mono h3 (fun u w'' h4 => ?_)
        rw [Act.put_same hs h4.1]; exact hK _ h4.2
    | halt x w' => cases x <;> simp only [Oper.upon] at h3 <;> exact h3.elim
  · rw [hw, if_neg (by rw [h1]; decide)]
    exact hK _ (Below.refl _ _)

/-- May the operations before number m come in whatever order, those from m on behind all of them, one after the other? (q: one of them that makes a block.) -/
def freeB (ops : Array Oper) (m : Nat) (q : Option Nat) : Bool :=
  (List.range ops.size).all fun i => match ops[i]? with
    | none => true
    | some o =>
      (match o.op with | .select .. => false | _ => true) &&
      o.after.toList.all (fun e => !Region.binds .any e || decide (e.on < i)) &&
      (decide (m ≤ i) || (List.range m).all fun j => i == j || (match dstOf ops j with
        | none => true
        | some d => o.dst != some d && (!(o.looksAt ops).contains d || (waits o j && q != some j) || (match ops[j]? with | some p => waits p i | none => false))))
def tailB (ops : Array Oper) (m : Nat) : Bool := decide (m = ops.size) || (decide (m < ops.size) && Region.sinkB .any ops m && Region.chainB .any ops m)

structure FreeAt (ops : Array Oper) (m : Nat) (q : Option Nat) (i : Nat) (o : Oper) : Prop where
  sel : ∀ cs b, o.op ≠ .select cs b
  back : ∀ e ∈ o.after, Region.binds .any e = true → e.on < i
  apart : i < m → ∀ j, j < m → j ≠ i → ∀ d, dstOf ops j = some d → o.dst ≠ some d ∧ (d ∈ o.looksAt ops → (waits o j = true ∧ q ≠ some j) ∨ ∃ p, ops[j]? = some p ∧ waits p i = true)
theorem freeB_spec {m : Nat} {q : Option Nat} (h : freeB ops m q = true) {i : Nat} {o : Oper} (hi : ops[i]? = some o) : FreeAt ops m q i o := by
  have hlt : i < ops.size := (Array.getElem?_eq_some_iff.1 hi).1
  have h1 := List.all_eq_true.1 h i (List.mem_range.2 hlt)
  simp only [hi, Bool.and_eq_true] at h1
  obtain ⟨⟨h1, h2⟩, h3⟩ := h1
  refine ⟨fun cs b e => by rw [e] at h1; simp at h1, fun e he hb => ?_, fun him j hj hne d hd => ?_⟩
  · have := List.all_eq_true.1 h2 e (by simpa using he)
    simpa [hb] using this
  · simp only [Bool.or_eq_true, decide_eq_true_eq] at h3
    rcases h3 with h3 | h3
    · omega
    · have := List.all_eq_true.1 h3 j (List.mem_range.2 hj)
      simp only [hd, Bool.or_eq_true, beq_iff_eq, Bool.and_eq_true, bne_iff_ne, Bool.not_eq_true'] at this
      rcases this with h4 | ⟨h4, h5⟩
      · exact absurd h4.symm hne
      · refine ⟨h4, fun hm => ?_⟩
        rcases h5 with (h5 | h5) | h5
        · exact absurd (List.contains_iff_mem.2 hm) (by rw [h5]; decide)
        · exact .inl h5
        · right
          cases hp : ops[j]? with
          | none => rw [hp] at h5; exact absurd h5 (by simp)
          | some p => rw [hp] at h5; exact ⟨p, rfl, h5⟩

/-- Which have come up. -/
def selOf (listed : Array Bool) (j : Nat) : Bool := listed.getD j true

theorem looks_eval {m i : Nat} {q : Option Nat} {o : Oper} {vs vs' : Nat → Value} {listed : Array Bool} {a : Act} (hF : freeB ops m q = true) (hi : ops[i]? = some o) (him : i < m) (inv : HeadInv .any ops m listed) (hms : m ≤ ops.size)
    (hr : i ∈ Region.ready .any ops listed) (hv : ∀ j, q ≠ some j → vs j = vs' j) :
    ∀ d ∈ o.looksAt ops, (canon ops vs (selOf listed) a m).tmps[d]? = (canon ops vs' (fun j => decide (j < i) && q != some j) a m).tmps[d]? := by
  intro d hd
  have F := freeB_spec hF hi
  obtain ⟨hu, o', ho', hall⟩ := mem_ready.1 hr
  have : o' = o := Option.some.inj (ho'.symm.trans hi)
  subst this
  refine canon_tmp m (fun j hj hjd => ?_)
  by_cases hji : j = i
  · subst hji
    have e1 : selOf listed j = false := hu
    simp [e1]
  · obtain ⟨_, h2⟩ := F.apart him j hj hji d hjd
    rcases h2 hd with ⟨h3, h4⟩ | ⟨p, hp, h3⟩
    · obtain ⟨e, he, hb, hon⟩ := waits_spec h3
      have h5 := hall e he hb
      rw [hon] at h5
      have hjs : j < listed.size := by rw [inv.size]; omega
      have e1 : selOf listed j = true := by
        unfold selOf
        simp [hjs] at h5 ⊢; exact h5
      have e2 : j < i := by rw [← hon]; exact F.back e he hb
      refine ⟨by simp [e1, e2, h4], fun _ => hv j h4⟩
    · obtain ⟨e, he, hb, hon⟩ := waits_spec h3
      have e1 : selOf listed j = false := by
        cases hs : listed.getD j false with
        | true =>
          have h5 := inv.closed j p hp hs e he hb
          rw [hon, getD_both hu] at h5
          cases h5
        | false => exact getD_in (by rw [inv.size]; omega) hs
      have e2 : ¬ j < i := by
        have := (freeB_spec hF hp).back e he hb
        omega
      simp [e1, e2]

structure ListedTo (ops : Array Oper) (listed : Array Bool) (k : Nat) : Prop where
  size : listed.size = ops.size
  yes : ∀ j, j < k → listed.getD j true = true
  no : ∀ j, k ≤ j → j < ops.size → listed.getD j true = false

theorem tail_any {m : Nat} {q : Option Nat} (hF : freeB ops m q = true) (hT : tailB ops m = true) {Q : Exit → Act → World → Prop} :
    ∀ (f k : Nat) (listed : Array Bool) (a : Act) (w : World), m ≤ k → k ≤ ops.size → ops.size - k ≤ f → ListedTo ops listed k → wpList P ops Q (ops.toList.drop k) a w → wpAny P .any ops Q f listed a w := by
  intro f
  induction f with
  | zero =>
    intro k listed a w hm hk hf hl h
    have hks : k = ops.size := by omega
    subst hks
    refine ⟨List.eq_nil_iff_forall_not_mem.2 fun i hi => ?_, ?_⟩
    · obtain ⟨hu, o, ho, _⟩ := mem_ready.1 hi
      have := hl.yes i (Array.getElem?_eq_some_iff.1 ho).1
      rw [this] at hu; cases hu
    · rw [List.drop_eq_nil_of_le (by simp)] at h; exact h
  | succ f ih =>
    intro k listed a w hm hk hf hl h
    by_cases hks : k = ops.size
    · subst hks
      have hno : Region.ready .any ops listed = [] := List.eq_nil_iff_forall_not_mem.2 fun i hi => by
        obtain ⟨hu, o, ho, _⟩ := mem_ready.1 hi
        have := hl.yes i (Array.getElem?_eq_some_iff.1 ho).1
        rw [this] at hu; cases hu
      refine ⟨fun _ => ?_, by rw [hno]; exact fun _ hx => absurd hx List.not_mem_nil⟩
      rw [List.drop_eq_nil_of_le (by simp)] at h; exact h
    · have hlt : k < ops.size := by omega
      obtain ⟨ok, hok⟩ : ∃ ok, ops[k]? = some ok := ⟨_, Array.getElem?_eq_getElem hlt⟩
      have hkr : k ∈ Region.ready .any ops listed := mem_ready.2 ⟨hl.no k (Nat.le_refl _) hlt, ok, hok, fun e he hb => by
        have := (freeB_spec hF hok).back e he hb
        have h2 := hl.yes e.on this
        have h3 : e.on < listed.size := by rw [hl.size]; omega
        simp [h3] at h2 ⊢; exact h2⟩
      refine ⟨fun h0 => absurd hkr (by rw [h0]; exact List.not_mem_nil), fun i hi => ?_⟩
      have hik : i = k := by
        obtain ⟨hu, o, ho, hall⟩ := mem_ready.1 hi
        have hisz : i < ops.size := (Array.getElem?_eq_some_iff.1 ho).1
        have hge : k ≤ i := by
          refine Nat.le_of_not_lt fun h' => ?_
          rw [hl.yes i h'] at hu; cases hu
        refine Nat.le_antisymm (Nat.le_of_not_lt fun hgt => ?_) hge
        unfold tailB at hT
        simp only [Bool.or_eq_true, decide_eq_true_eq, Bool.and_eq_true] at hT
        rcases hT with hT | ⟨_, hc⟩
        · omega
        · have h1 := List.all_eq_true.1 hc i (List.mem_range.2 hisz)
          simp only [Bool.or_eq_true, decide_eq_true_eq] at h1
          rcases h1 with h1 | h1
          · omega
          · obtain ⟨o', ho', e, he, hb, hon⟩ := Region.waitsFor_spec h1
            have : o' = o := Option.some.inj (ho'.symm.trans ho)
            subst this
            have h2 := hall e he hb
            rw [hon, getD_both (hl.no (i - 1) (by omega) (by omega))] at h2
            cases h2
      subst hik
      have hd : ops.toList.drop i = ok :: ops.toList.drop (i + 1) := by
        rw [List.drop_eq_getElem_cons (by simpa using hlt)]
        congr 1
        simpa [Array.getElem?_eq_getElem hlt] using hok
      rw [hd] at h
      have step : ∀ a w, wpList P ops Q (ops.toList.drop (i + 1)) a w → wpAny P .any ops Q f (listed.setIfInBounds i true) a w := fun a w hh =>
        ih (i + 1) _ a w (by omega) (by omega) (by omega) ⟨by simp [hl.size], fun j hj => by
          by_cases hji : j = i
          · subst hji; simp [hl.size, hlt]
          · rw [getD_set_ne true (Ne.symm hji)]; exact hl.yes j (by omega), fun j hj hjs => by
          rw [getD_set_ne true (by omega)]; exact hl.no j (by omega) hjs⟩ hh
      unfold Go.wpOp
      simp only [hok]
      simp only [wpList] at h
      split
      · rename_i hw
        rw [if_pos hw] at h
        exact h.imp (Oper.wp_mono step) id
      · rename_i hw
        rw [if_neg hw] at h
        exact step _ _ h

theorem countP_lt {α : Type} {p p' : α → Bool} {x : α} : ∀ {l : List α}, x ∈ l → (∀ y, p' y = true → p y = true) → p x = true → p' x = false → l.countP p' < l.countP p
  | y :: r, hx, hle, h1, h2 => by
    have hr : r.countP p' ≤ r.countP p := List.countP_mono_left (fun z _ => hle z)
    rcases List.mem_cons.1 hx with rfl | hx
    · rw [List.countP_cons_of_pos h1, List.countP_cons_of_neg (by rw [h2]; decide)]; omega
    · have := countP_lt hx hle h1 h2
      by_cases hy : p' y = true
      · rw [List.countP_cons_of_pos hy, List.countP_cons_of_pos (hle y hy)]; omega
      · rw [List.countP_cons_of_neg hy]
        by_cases hy2 : p y = true
        · rw [List.countP_cons_of_pos hy2]; omega
        · rw [List.countP_cons_of_neg hy2]; exact this

/-- An operation that makes a block. -/
structure Makes (P : Program) (o : Oper) (t : TypeId) (z : Array Value) : Prop where
  guard : o.guard = none
  run : ∀ (a : Act) (w : World), (execOp a.eval o).run P w = .ok (.value (.pointer (some ⟨w.heap.size, 0, none⟩))) (w.alloc (.cells z t))

def withB (vs : Nat → Value) (q : Option Nat) (B : Nat) (j : Nat) : Value := if q = some j then .pointer (some ⟨B, 0, none⟩) else vs j

theorem getLooks {o : Oper} {a b : Act} (hsel : ∀ cs b, o.op ≠ .select cs b) (_ : a.tmps.size = b.tmps.size) (h : ∀ d ∈ o.looksAt ops, a.tmps[d]? = b.tmps[d]?) :
    execOp a.eval o = execOp b.eval o ∧ Region.wanted o (yielded ops a.tmps) = Region.wanted o (yielded ops b.tmps) := by
  constructor
  · refine execOp_congr o hsel fun x hx => ?_
    cases x with
    | tmp t =>
      have : t ∈ o.looksAt ops := List.mem_append_left _ (List.mem_filterMap.2 ⟨.tmp t, by simpa using hx, rfl⟩)
      have h2 := h t this
      simp only [Act.eval]
      rw [Array.getD_eq_getD_getElem?, Array.getD_eq_getD_getElem?, h2]
    | const v => rfl
    | global g => rfl
    | func f => rfl
  · unfold Region.wanted
    cases hg : o.guard with
    | none => rfl
    | some g =>
      obtain ⟨g, want⟩ := g
      have : yielded ops a.tmps g = yielded ops b.tmps g := by
        unfold yielded
        cases hd : (ops[g]?).bind (·.dst) with
        | none => rfl
        | some d =>
          have : d ∈ o.looksAt ops := List.mem_append_right _ (by rw [hg]; simp [hd])
          simp only [Option.bind_some, h d this]
      simp only [this]

theorem free_any {m : Nat} {q : Option Nat} {t : TypeId} {z : Array Value} (hF : freeB ops m q = true) (hT : tailB ops m = true) {Q : Exit → Act → World → Prop} {a : Act} {w0 : World} {vs : Nat → Value}
    (hN : ∀ i o, i < m → ops[i]? = some o → q ≠ some i → Mk P ops w0 o (vs i) (canon ops vs (fun j => decide (j < i) && q != some j) a m))
    (hA : ∀ i o, q = some i → ops[i]? = some o → Makes P o t z)
    (hK : ∀ B w, Below w0.heap.size w0 w → (q.isSome = true → w0.heap.size ≤ B ∧ Has w B t z) → wpList P ops Q (ops.toList.drop m) (canon ops (withB vs q B) (fun _ => true) a m) w) (hms : m ≤ ops.size) (hqm : ∀ i, q = some i → i < m) :
    ∀ (f : Nat) (listed : Array Bool) (B : Nat) (w : World), HeadInv .any ops m listed → (List.range m).countP (fun j => !selOf listed j) + (ops.size - m) ≤ f →
      Below w0.heap.size w0 w → (∀ i, q = some i → selOf listed i = true → w0.heap.size ≤ B ∧ Has w B t z) → wpAny P .any ops Q f listed (canon ops (withB vs q B) (selOf listed) a m) w := by
  intro f
  induction f with
  | zero =>
    intro listed B w inv hf hB hq
    have hall : ∀ j, j < m → selOf listed j = true := fun j hj => by
      have h0 : (List.range m).countP (fun j => !selOf listed j) = 0 := by omega
      have := List.countP_eq_zero.1 h0 j (List.mem_range.2 hj)
      simpa using this
    rw [canon_congr (vs' := withB vs q B) (sel' := fun _ => true) m (fun j hj => ⟨hall j hj, fun _ => rfl⟩)]
    exact tail_any hF hT 0 m listed _ w (Nat.le_refl _) hms (by omega) ⟨inv.size, hall, inv.tail⟩ (hK B w hB (fun h => by
      obtain ⟨i, hi⟩ := Option.isSome_iff_exists.1 h
      exact hq i hi (hall i (hqm i hi))))
  | succ f ih =>
    intro listed B w inv hf hB hq
    by_cases hall : ∀ j, j < m → selOf listed j = true
    · rw [canon_congr (vs' := withB vs q B) (sel' := fun _ => true) m (fun j hj => ⟨hall j hj, fun _ => rfl⟩)]
      exact tail_any hF hT (f + 1) m listed _ w (Nat.le_refl _) hms (by omega) ⟨inv.size, hall, inv.tail⟩ (hK B w hB (fun h => by
        obtain ⟨i, hi⟩ := Option.isSome_iff_exists.1 h
        exact hq i hi (hall i (hqm i hi))))
    · -- the first one that has not come up may come up
      have hex : ∃ j, j < m ∧ selOf listed j = false ∧ ∀ k, k < j → selOf listed k = true := by
        have h1 : ∃ j, j < m ∧ selOf listed j = false := by
          refine Classical.byContradiction fun hno => hall fun j hj => ?_
          cases hs : selOf listed j with
          | true => rfl
          | false => exact absurd ⟨j, hj, hs⟩ hno
        obtain ⟨j, hj⟩ := h1
        induction j using Nat.strongRecOn with
        | _ j ihj =>
          by_cases hk : ∀ k, k < j → selOf listed k = true
          · exact ⟨j, hj.1, hj.2, hk⟩
          · have : ∃ k, k < j ∧ selOf listed k = false := by
              refine Classical.byContradiction fun hno => hk fun k hk' => ?_
              cases hs : selOf listed k with
              | true => rfl
              | false => exact absurd ⟨k, hk', hs⟩ hno
            obtain ⟨k, hk1, hk2⟩ := this
            exact ihj k hk1 ⟨by omega, hk2⟩
      obtain ⟨j, hjm, hju, hjb⟩ := hex
      obtain ⟨oj, hoj⟩ : ∃ oj, ops[j]? = some oj := ⟨_, Array.getElem?_eq_getElem (by omega)⟩
      have hjr : j ∈ Region.ready .any ops listed := mem_ready.2 ⟨hju, oj, hoj, fun e he hb => by
        have h1 := (freeB_spec hF hoj).back e he hb
        have h2 := hjb e.on h1
        have h3 : e.on < listed.size := by rw [inv.size]; omega
        unfold selOf at h2
        simp [h3] at h2 ⊢; exact h2⟩
      refine ⟨fun h0 => absurd hjr (by rw [h0]; exact List.not_mem_nil), fun i hi => ?_⟩
      obtain ⟨hu, o, ho, hafter⟩ := mem_ready.1 hi
      have hisz : i < ops.size := (Array.getElem?_eq_some_iff.1 ho).1
      have him : i < m := by
        unfold tailB at hT
        simp only [Bool.or_eq_true, decide_eq_true_eq, Bool.and_eq_true] at hT
        rcases hT with hT | ⟨⟨hlt, hs⟩, hc⟩
        · omega
        · exact Nat.lt_of_not_le fun hge => tail_waits hs hc hlt inv _ j rfl hjm hju i hge hi
      have hF' := freeB_spec hF ho
      have hdst : dstOf ops i = o.dst := by simp [dstOf, ho]
      have hdis : ∀ k, k < m → k ≠ i → ∀ d, dstOf ops k = some d → dstOf ops i ≠ some d := fun k hk hne d hd => by
        rw [hdst]; exact (hF'.apart him k hk hne d hd).1
      have hsel' : selOf (listed.setIfInBounds i true) = fun k => selOf listed k || k == i := by
        funext k
        unfold selOf
        by_cases hki : k = i
        · subst hki
          have : k < listed.size := by rw [inv.size]; exact hisz
          simp [this]
        · rw [getD_set_ne true (Ne.symm hki)]
          simp [hki]
      have hcount : (List.range m).countP (fun k => !selOf (listed.setIfInBounds i true) k) < (List.range m).countP (fun k => !selOf listed k) := by
        refine countP_lt (x := i) (List.mem_range.2 him) (fun y hy => ?_) (by simp [selOf, hu]) (by rw [hsel']; simp)
        rw [hsel'] at hy
        simp at hy
        simp [hy.1]
      have hsz : ∀ vs' sel', (canon ops vs' sel' a m).tmps.size = a.tmps.size := fun vs' sel' => (canon_size m).1
      by_cases hqi : q = some i
      · have hmk := hA i o hqi ho
        unfold Go.wpOp
        simp only [ho]
        have hw : Region.wanted o (yielded ops (canon ops (withB vs q B) (selOf listed) a m).tmps) = true := by simp [Region.wanted, hmk.guard]
        rw [if_pos hw]
        left
        unfold Oper.wp
        rw [hmk.run]
        simp only [Oper.upon]
        have e1 : canon ops (withB vs q B) (selOf listed) a m = canon ops (withB vs q w.heap.size) (selOf listed) a m :=
          canon_congr m (fun k hk => ⟨rfl, fun hs => by
            unfold withB
            have : q ≠ some k := fun h' => by
              rw [hqi] at h'; cases h'
              unfold selOf at hs; rw [hu] at hs; cases hs
            simp [this]⟩)
        have e2 : (canon ops (withB vs q B) (selOf listed) a m).put o.dst (.pointer (some ⟨w.heap.size, 0, none⟩)) = canon ops (withB vs q w.heap.size) (selOf (listed.setIfInBounds i true)) a m := by
          rw [hsel', canon_put hu m him hdis, e1, hdst]
          simp [withB, hqi]
        rw [e2]
        refine ih _ w.heap.size _ (inv.set hi him) (by omega) (hB.alloc hB.size _) (fun k hk _ => ⟨hB.size, Has.new w t z⟩)
      · have hev := looks_eval (vs := withB vs q B) (vs' := vs) (a := a) hF ho him inv hms hi (fun k hk => by simp [withB, hk])
        obtain ⟨he, hw⟩ := getLooks (ops := ops) (o := o) hF'.sel (by rw [hsz, hsz]) hev
        refine (hN i o him ho hqi).wpOp ho (by rw [hsz, hsz]) he hw hB (fun w' hb => ?_)
        have e2 : (canon ops (withB vs q B) (selOf listed) a m).put o.dst (vs i) = canon ops (withB vs q B) (selOf (listed.setIfInBounds i true)) a m := by
          rw [hsel', canon_put hu m him hdis, hdst]
          simp [withB, hqi]
        rw [e2]
        refine ih _ B w' (inv.set hi him) (by omega) (hB.trans (hb.mono hB.size)) (fun k hk hs => ?_)
        have hk2 : selOf listed k = true := by
          rw [hsel'] at hs
          have hki : k ≠ i := fun h' => hqi (by rw [← h']; exact hk)
          simpa [hki] using hs
        obtain ⟨h1, h2⟩ := hq k hk hk2
        exact ⟨h1, h2.after hb⟩
end
end Go.Proofs
namespace Go.Proofs
open Go.RowKit
section
variable {P : Program} {ops : Array Oper}

theorem canon_cut {vs : Nat → Value} {s : Nat → Bool} {a : Act} {i : Nat} : ∀ m, i ≤ m → canon ops vs (fun j => decide (j < i) && s j) a m = canon ops vs s a i
  | 0, h => by have : i = 0 := by omega
               subst this; rfl
  | k + 1, h => by
    by_cases hi : i = k + 1
    · subst hi
      exact canon_congr _ (fun j hj => ⟨by simp [hj], fun _ => rfl⟩)
    · have := canon_cut (vs := vs) (s := s) (a := a) (i := i) k (by omega)
      simp only [canon]
      have e : (decide (k < i) && s k) = false := by simp; omega
      rw [if_neg (by rw [e]; decide), this]

/-- What is owed for the operations that make memory at most, in the order of the text. -/
def Obl (P : Program) (ops : Array Oper) (w0 : World) (q : Option Nat) : Nat → List Oper → Act → (Act → Prop) → Prop
  | _, [], a, K => K a
  | i, o :: r, a, K => (q = some i ∧ Obl P ops w0 q (i + 1) r a K) ∨ (q ≠ some i ∧ ∃ v, Mk P ops w0 o v a ∧ Obl P ops w0 q (i + 1) r (a.put o.dst v) K)

theorem Obl.all {w0 : World} {q : Option Nat} {a0 : Act} {K : Act → Prop} {m : Nat} : ∀ (l : List Oper) (i : Nat) (vs0 : Nat → Value), i + l.length = m → (∀ j, l[j]? = (ops[i + j]?)) ∨ (∀ j, j < l.length → l[j]? = ops[i + j]?) →
    Obl P ops w0 q i l (canon ops vs0 (fun j => q != some j) a0 i) K →
    ∃ vs : Nat → Value, (∀ j, j < i → vs j = vs0 j) ∧ (∀ j o, i ≤ j → j < m → ops[j]? = some o → q ≠ some j → Mk P ops w0 o (vs j) (canon ops vs (fun k => q != some k) a0 j)) ∧ K (canon ops vs (fun k => q != some k) a0 m)
  | [], i, vs0, hm, _, h => ⟨vs0, fun _ _ => rfl, fun j o h1 h2 => by simp at hm; omega, by simp at hm; subst hm; exact h⟩
  | o :: r, i, vs0, hm, hl, h => by
    have hl' : ∀ j, j < (o :: r).length → (o :: r)[j]? = ops[i + j]? := fun j hj => by rcases hl with hl | hl; exact hl j; exact hl j hj
    have h0 : ops[i]? = some o := by simpa using (hl' 0 (by simp)).symm
    have hr : ∀ j, j < r.length → r[j]? = ops[i + 1 + j]? := fun j hj => by
      have := hl' (j + 1) (by simpa using hj)
      simpa [Nat.add_assoc, Nat.add_comm 1 j] using this
    rcases h with ⟨hq, h⟩ | ⟨hq, v, hv, h⟩
    · have e : canon ops vs0 (fun k => q != some k) a0 (i + 1) = canon ops vs0 (fun k => q != some k) a0 i := by simp [canon, hq]
      obtain ⟨vs, h1, h2, h3⟩ := Obl.all (m := m) r (i + 1) vs0 (by simp at hm; omega) (.inr hr) (by rw [e]; exact h)
      refine ⟨vs, fun j hj => h1 j (by omega), fun j o' hij hjm ho hqj => ?_, h3⟩
      by_cases hji : j = i
      · subst hji; exact absurd hq hqj
      · exact h2 j o' (by omega) hjm ho hqj
    · have hd : dstOf ops i = o.dst := by simp [dstOf, h0]
      have hb : (q != some i) = true := by simpa using hq
      obtain ⟨vs, h1, h2, h3⟩ := Obl.all (m := m) r (i + 1) (fun j => if j = i then v else vs0 j) (by simp at hm; omega) (.inr hr) (by
        have e : canon ops (fun j => if j = i then v else vs0 j) (fun k => q != some k) a0 (i + 1) = (canon ops vs0 (fun k => q != some k) a0 i).put o.dst v := by
          simp only [canon, hb, if_true, hd]
          congr 1
          exact canon_congr i (fun j hj => ⟨rfl, fun _ => by simp [show j ≠ i by omega]⟩)
        rw [e]; exact h)
      refine ⟨vs, fun j hj => by rw [h1 j (by omega)]; simp [show j ≠ i by omega], fun j o' hij hjm ho hqj => ?_, h3⟩
      by_cases hji : j = i
      · subst hji
        have : o' = o := Option.some.inj (ho.symm.trans h0)
        subst this
        have e1 : vs j = v := by rw [h1 j (by omega)]; simp
        have e2 : canon ops vs (fun k => q != some k) a0 j = canon ops vs0 (fun k => q != some k) a0 j :=
          canon_congr j (fun k hk => ⟨rfl, fun _ => by rw [h1 k (by omega)]; simp [show k ≠ j by omega]⟩)
        rw [e1, e2]; exact hv
      · exact h2 j o' (by omega) hjm ho hqj

variable {Q : Exit → Act → World → Prop} {a : Act} {w : World} {l : List Oper}

theorem head0 (m : Nat) : HeadInv .any l.toArray m (Array.replicate l.toArray.size false) :=
  ⟨by simp, fun j oj _ hl => by rw [getD_replicate_false] at hl; exact Bool.noConfusion hl, fun t _ ht => getD_in (by simpa using ht) (getD_replicate_false _ _)⟩
theorem count_le {p : Nat → Bool} (m : Nat) : (List.range m).countP p ≤ m := by
  have := List.countP_le_length (p := p) (l := List.range m); simpa using this

theorem any_free0 {m : Nat} (hF : freeB l.toArray m none = true) (hT : tailB l.toArray m = true) (hms : m ≤ l.length)
    (h : Obl P l.toArray w none 0 (l.take m) a (fun a' => ∀ w', Below w.heap.size w w' → wpList P l.toArray Q (l.drop m) a' w')) :
    wpAny P .any l.toArray Q l.toArray.size (Array.replicate l.toArray.size false) a { w with drawn := w.drawn + 1 } := by
  obtain ⟨vs, _, h2, h3⟩ := Obl.all (m := m) (a0 := a) (l.take m) 0 (fun _ => undef) (by simp; omega) (.inr fun j hj => by
    have : j < m := by simp at hj; omega
    simp [this]) h
  have hcut := fun i (hi : i ≤ m) => canon_cut (ops := l.toArray) (vs := vs) (s := fun j => (none : Option Nat) != some j) (a := a) m hi
  have e0 : a = canon l.toArray (withB vs none 0) (selOf (Array.replicate l.toArray.size false)) a m := by
    have e1 : canon l.toArray (withB vs none 0) (selOf (Array.replicate l.toArray.size false)) a m = canon l.toArray vs (fun j => decide (j < 0) && ((none : Option Nat) != some j)) a m :=
      canon_congr m (fun j hj => ⟨by simp [selOf, show j < l.length by omega], fun _ => rfl⟩)
    rw [e1, hcut 0 (by omega)]; rfl
  have := free_any (P := P) (ops := l.toArray) (m := m) (q := none) (t := 0) (z := #[]) hF hT (Q := Q) (a := a) (w0 := w) (vs := vs)
    (fun i o hi ho hq => by rw [hcut i (by omega)]; exact h2 i o (by omega) hi ho hq) (fun i o hq => by cases hq)
    (fun B w' hb _ => by
      have e : canon l.toArray (withB vs none B) (fun _ => true) a m = canon l.toArray vs (fun k => (none : Option Nat) != some k) a m := canon_congr m (fun j _ => ⟨by simp, fun _ => rfl⟩)
      rw [e]; simpa using h3 w' hb) (by simpa using hms) (fun i hi => by cases hi)
    l.toArray.size (Array.replicate l.toArray.size false) 0 { w with drawn := w.drawn + 1 } (head0 m)
    (by have := count_le (p := fun j => !selOf (Array.replicate l.toArray.size false) j) m; simp only [List.size_toArray] at *; omega) (Below.refl _ w).drew (fun i hi => by cases hi)
  rw [← e0] at this
  exact this

theorem any_free1 {m i : Nat} {o : Oper} {t : TypeId} {z : Array Value} (hF : freeB l.toArray m (some i) = true) (hT : tailB l.toArray m = true) (hms : m ≤ l.length) (him : i < m) (ho : l[i]? = some o) (hA : Makes P o t z)
    (h : Obl P l.toArray w (some i) 0 (l.take m) a (fun a' => ∀ B w', Below w.heap.size w w' → w.heap.size ≤ B → Has w' B t z → wpList P l.toArray Q (l.drop m) (a'.put o.dst (.pointer (some ⟨B, 0, none⟩))) w')) :
    wpAny P .any l.toArray Q l.toArray.size (Array.replicate l.toArray.size false) a { w with drawn := w.drawn + 1 } := by
  obtain ⟨vs, _, h2, h3⟩ := Obl.all (m := m) (a0 := a) (l.take m) 0 (fun _ => undef) (by simp; omega) (.inr fun j hj => by
    have : j < m := by simp at hj; omega
    simp [this]) h
  have ho' : l.toArray[i]? = some o := by simpa using ho
  have hdst : dstOf l.toArray i = o.dst := by simp [dstOf, ho]
  have hcut := fun k (hk : k ≤ m) => canon_cut (ops := l.toArray) (vs := vs) (s := fun j => some i != some j) (a := a) m hk
  have e0 : a = canon l.toArray (withB vs (some i) 0) (selOf (Array.replicate l.toArray.size false)) a m := by
    have e1 : canon l.toArray (withB vs (some i) 0) (selOf (Array.replicate l.toArray.size false)) a m = canon l.toArray vs (fun j => decide (j < 0) && (some i != some j)) a m :=
      canon_congr m (fun j hj => ⟨by simp [selOf, show j < l.length by omega], fun hs => by simp [selOf, show j < l.length by omega] at hs⟩)
    rw [e1, hcut 0 (by omega)]; rfl
  have := free_any (P := P) (ops := l.toArray) (m := m) (q := some i) (t := t) (z := z) hF hT (Q := Q) (a := a) (w0 := w) (vs := vs)
    (fun k o' hk hok hq => by rw [hcut k (by omega)]; exact h2 k o' (by omega) hk hok hq) (fun k o' hq hok => by cases hq; rw [ho'] at hok; cases hok; exact hA)
    (fun B w' hb hq => by
      obtain ⟨h5, h6⟩ := hq rfl
      have hdis : ∀ k, k < m → k ≠ i → ∀ d, dstOf l.toArray k = some d → dstOf l.toArray i ≠ some d := fun k hk hne d hd => by
        rw [hdst]; exact ((freeB_spec hF ho').apart him k hk hne d hd).1
      have e : canon l.toArray (withB vs (some i) B) (fun _ => true) a m = (canon l.toArray vs (fun k => some i != some k) a m).put o.dst (.pointer (some ⟨B, 0, none⟩)) := by
        have e1 := canon_put (ops := l.toArray) (vs := withB vs (some i) B) (sel := fun k => some i != some k) (a := a) (i := i) (by simp) m him hdis
        have e2 : (fun j => (some i != some j) || j == i) = fun _ => true := by
          funext j
          by_cases hj : j = i
          · simp [hj]
          · simp [hj, Ne.symm hj]
        rw [e2] at e1
        rw [e1, hdst]
        have e3 : canon l.toArray (withB vs (some i) B) (fun k => some i != some k) a m = canon l.toArray vs (fun k => some i != some k) a m := canon_congr m (fun j _ => ⟨rfl, fun hs => by
          have : ¬ i = j := by simpa using hs
          simp [withB, this]⟩)
        rw [e3]
        simp [withB]
      rw [e]; simpa using h3 B w' hb h5 h6) (by simpa using hms) (fun k hk => by cases hk; exact him)
    l.toArray.size (Array.replicate l.toArray.size false) 0 { w with drawn := w.drawn + 1 } (head0 m)
    (by have := count_le (p := fun j => !selOf (Array.replicate l.toArray.size false) j) m; simp only [List.size_toArray] at *; omega) (Below.refl _ w).drew (fun k hk hs => by cases hk; simp [selOf, show i < l.length by omega] at hs)
  rw [← e0] at this
  exact this

theorem wp_region_free {id m : Nat} (hm : P.follows .mixedOrders = true) (hF : freeB l.toArray m none = true) (hT : tailB l.toArray m = true) (hms : m ≤ l.length)
    (h : Obl P l.toArray w none 0 (l.take m) a (fun a' => ∀ w', Below w.heap.size w w' → wpList P l.toArray Q (l.drop m) a' w')) : (Code.region id l.toArray true).wp P Q a w :=
  wp_region_any hm (any_free0 hF hT hms h)
theorem wp_region_free1 {id m : Nat} (i : Nat) {o : Oper} {t : TypeId} {z : Array Value} (hm : P.follows .mixedOrders = true) (hF : freeB l.toArray m (some i) = true) (hT : tailB l.toArray m = true) (hms : m ≤ l.length) (him : i < m) (ho : l[i]? = some o) (hA : Makes P o t z)
    (h : Obl P l.toArray w (some i) 0 (l.take m) a (fun a' => ∀ B w', Below w.heap.size w w' → w.heap.size ≤ B → Has w' B t z → wpList P l.toArray Q (l.drop m) (a'.put o.dst (.pointer (some ⟨B, 0, none⟩))) w')) :
    (Code.region id l.toArray true).wp P Q a w :=
  wp_region_any hm (any_free1 hF hT hms him ho hA h)

/-- The operations before number m in whatever order, the rest behind them. -/
theorem wp_free {id : Nat} (m : Nat) (hm : P.follows .mixedOrders = true) (hF : freeB l.toArray m none = true) (hT : tailB l.toArray m = true) (hms : m ≤ l.length)
    (h : ∀ K : Act → Prop, (∀ a', (∀ w', Below w.heap.size w w' → wpList P l.toArray Q (l.drop m) a' w') → K a') → Obl P l.toArray w none 0 (l.take m) a K) : (Code.region id l.toArray true).wp P Q a w :=
  wp_region_free hm hF hT hms (h _ fun _ h => h)
theorem wp_free1 {id : Nat} (m i : Nat) {o : Oper} (t : TypeId) (z : Array Value) (hm : P.follows .mixedOrders = true) (hF : freeB l.toArray m (some i) = true) (hT : tailB l.toArray m = true) (hms : m ≤ l.length) (him : i < m) (ho : l[i]? = some o) (hA : Makes P o t z)
    (h : ∀ K : Act → Prop, (∀ a', (∀ B w', Below w.heap.size w w' → w.heap.size ≤ B → Has w' B t z → wpList P l.toArray Q (l.drop m) (a'.put o.dst (.pointer (some ⟨B, 0, none⟩))) w') → K a') → Obl P l.toArray w (some i) 0 (l.take m) a K) :
    (Code.region id l.toArray true).wp P Q a w :=
  wp_region_free1 i hm hF hT hms him ho hA (h _ fun _ h => h)

theorem Obl.val {w0 : World} {q : Option Nat} {i : Nat} {o : Oper} {r : List Oper} {K : Act → Prop} {v : Value} (hq : q ≠ some i) (hg : Region.wanted o (yielded ops a.tmps) = true)
    (hr : ∀ w, Below w0.heap.size w0 w → (execOp a.eval o).run P w = .ok (.value v) w) (h : Obl P ops w0 q (i + 1) r (a.put o.dst v) K) : Obl P ops w0 q i (o :: r) a K :=
  .inr ⟨hq, v, .inl ⟨hg, fun w hb K hK => by unfold Oper.wp; rw [hr w hb]; exact hK _ (Below.refl _ _)⟩, h⟩
theorem Obl.skip {w0 : World} {q : Option Nat} {i : Nat} {o : Oper} {r : List Oper} {K : Act → Prop} (hq : q ≠ some i) (hg : Region.wanted o (yielded ops a.tmps) = false)
    (h : Obl P ops w0 q (i + 1) r (a.put o.dst undef) K) : Obl P ops w0 q i (o :: r) a K :=
  .inr ⟨hq, undef, .inr ⟨hg, rfl⟩, h⟩
theorem Obl.makes {w0 : World} {i : Nat} {o : Oper} {r : List Oper} {K : Act → Prop} (h : Obl P ops w0 (some i) (i + 1) r a K) : Obl P ops w0 (some i) i (o :: r) a K := .inl ⟨rfl, h⟩
/-- A call of a function that is named. -/
theorem Obl.call {w0 : World} {q : Option Nat} {i : Nat} {o : Oper} {r : List Oper} {K : Act → Prop} {v : Value} {f : FuncId} {args : Array Value} (hq : q ≠ some i) (hg : Region.wanted o (yielded ops a.tmps) = true)
    (hr : ∀ w, Below w0.heap.size w0 w → (execOp a.eval o).run P w = .ok (.enter f args) w) (hc : ∀ w, Below w0.heap.size w0 w → Calls P f args w fun e w' => e = .returned v ∧ Below w.heap.size w w')
    (h : Obl P ops w0 q (i + 1) r (a.put o.dst v) K) : Obl P ops w0 q i (o :: r) a K :=
  .inr ⟨hq, v, .inl ⟨hg, fun w hb K hK => by
    unfold Oper.wp; rw [hr w hb]
    exact (hc w hb).mono fun e w' ⟨he, hb'⟩ => by subst he; exact hK _ hb'⟩, h⟩
/-- A whole row is loaded. -/
theorem Obl.row {w0 : World} {q : Option Nat} {i : Nat} {o : Oper} {r : List Oper} {K : Act → Prop} (hq : q ≠ some i) (hgd : o.guard = none) (ty : TypeId) (x : Operand) (ho : o.op = .load ty x) (g : Nat) (hx : a.eval x = .pointer (some ⟨g, 0, none⟩))
    (t : TypeId) (cs : Array Value) (d : TypeDesc) (hg : Has w0 g t cs) (hu : P.underlying ty = some d) (hd : (match d with | .struct _ | .array _ _ => true | _ => false) = true)
    (hi : (P.info? ty).map (·.size) = some cs.size) (h : Obl P ops w0 q (i + 1) r (a.put o.dst (.agg cs)) K) : Obl P ops w0 q i (o :: r) a K :=
  Obl.val hq (by simp [Region.wanted, hgd]) (fun w hb => by
    unfold execOp
    simp only [ho, hx, Instr.loadAt, Instr.sureAddr, Sem.run_bind, Sem.run_pure, Result.andThen_ok, run_loadVar_row w g t ty cs (0, 0) d (hg.after hb) hu hd hi]) h
theorem Obl.nil {w0 : World} {q : Option Nat} {i : Nat} {K : Act → Prop} (h : K a) : Obl P ops w0 q i [] a K := h
theorem same_calls {f : FuncId} {args : Array Value} {v : Value} (h : Calls P f args w fun e w' => e = .returned v ∧ w = w') : Calls P f args w fun e w' => e = .returned v ∧ Below w.heap.size w w' :=
  h.mono fun _ _ ⟨he, hw⟩ => ⟨he, hw ▸ Below.refl _ _⟩
end
end Go.Proofs
namespace Go.Proofs
open Go.RowKit
section
variable {P : Program} {ops : Array Oper} {n l0 : Nat}

/-- An operation without a fence is one in a round of a loop at the wide fence. -/
theorem Oper.wpIn_of_wp {o : Oper} {a : Act} {w : World} {K : Act → World → Prop} {Q : Exit → Act → World → Prop} (hd : ∀ c, o.op ≠ .defer c) (h : o.wp P a w K (fun _ _ _ => False)) : o.wpIn (Fence.wide.inRound l0) n P a w K Q := by
  refine ⟨fun _ _ => trivial, ?_⟩
  rw [Fence.inRound_round, Oper.semAt_some _ _ _ hd]
  unfold Oper.wp at h
  generalize (execOp a.eval o).run P w = r at h ⊢
  cases r with
  | ok x w' =>
    cases x <;> simp only [Oper.upon, Oper.uponIn] at h ⊢ <;> first | exact h | exact h.elim | skip
    case enter f args =>
      refine ⟨fun hs => (by cases hs), CallsIn.inRound l0 (callsIn_wide.2 (h.mono fun e w'' he => ?_))⟩
      cases e with
      | returned v => exact he
      | panicked c => exact he.elim
      | outgrown => obtain ⟨_, _, h5⟩ := he; exact h5.elim
    case row row args =>
      refine ⟨fun hs => (by cases hs), fun c cs _ => ?_⟩
      obtain ⟨v, w'', r, s⟩ := h c cs
      exact ⟨v, w'', r, by rw [fenced_inRound]; exact stepsIn_wide.2 s⟩
  | halt x w' => cases x <;> simp only [Oper.upon] at h <;> exact h.elim

def noDefer (l : List Oper) : Bool := l.all fun o => match o.op with | .defer _ => false | _ => true
theorem noDefer_spec {l : List Oper} (h : noDefer l = true) {o : Oper} (ho : o ∈ l) : ∀ c, o.op ≠ .defer c := fun c e => by
  have := List.all_eq_true.1 h o ho
  rw [e] at this
  simp at this

/-- What ends as it should, and no other way. -/
abbrev OnlyN (Q : Exit → Act → World → Prop) : Exit → Act → World → Prop := Exit.then (Q .normal) (fun _ _ _ => False)
theorem OnlyN_no {Q : Exit → Act → World → Prop} : ¬ LetsOut (OnlyN Q) := fun ⟨_, _, h⟩ => h

theorem wpListIn_of_wpList {Q : Exit → Act → World → Prop} : ∀ (l : List Oper) (a : Act) (w : World), noDefer l = true → wpList P ops (OnlyN Q) l a w → wpListIn (Fence.wide.inRound l0) n P ops Q l a w
  | [], _, _, _, h => h
  | o :: r, a, w, hd, h => by
    have hd' : noDefer r = true := by simp only [noDefer, List.all_cons, Bool.and_eq_true] at hd; exact hd.2
    simp only [wpList] at h
    simp only [wpListIn]
    split
    · rename_i hw
      rw [if_pos hw] at h
      rcases h with h | ⟨_, h⟩
      · refine Oper.wpIn_of_wp (noDefer_spec hd (by simp)) ?_
        have := Oper.wp_mono (P := P) (Q := OnlyN Q) (fun a w hh => wpListIn_of_wpList r a w hd' hh) h
        unfold Oper.wp at this ⊢
        generalize (execOp a.eval o).run P w = res at this ⊢
        cases res with
        | ok x w' =>
          cases x <;> simp only [Oper.upon] at this ⊢ <;> exact this
        | halt x w' => cases x <;> simp only [Oper.upon] at this ⊢ <;> exact this
      · exact absurd h OnlyN_no
    · rename_i hw
      rw [if_neg hw] at h
      exact ⟨fun _ _ => trivial, wpListIn_of_wpList r _ w hd' h⟩

theorem wpAnyIn_of_wpAny {Q : Exit → Act → World → Prop} (hd : noDefer ops.toList = true) : ∀ (f : Nat) (listed : Array Bool) (a : Act) (w : World), wpAny P .any ops (OnlyN Q) f listed a w → wpAnyIn (Fence.wide.inRound l0) n P .any ops Q f listed a w
  | 0, _, _, _, h => h
  | f + 1, listed, a, w, h => by
    refine ⟨h.1, fun i hi => ?_⟩
    have h2 := h.2 i hi
    unfold wpOp at h2
    unfold wpOpIn
    cases ho : ops[i]? with
    | none =>
      simp only [ho] at h2 ⊢
      exact wpAnyIn_of_wpAny hd f _ _ _ h2
    | some o =>
      simp only [ho] at h2 ⊢
      split
      · rename_i hw
        rw [if_pos hw] at h2
        rcases h2 with h2 | ⟨_, h2⟩
        · refine Oper.wpIn_of_wp (noDefer_spec hd (by rw [Array.mem_toList_iff]; exact Array.mem_of_getElem? ho)) ?_
          have := Oper.wp_mono (P := P) (Q := OnlyN Q) (fun a w hh => wpAnyIn_of_wpAny hd f (listed.setIfInBounds i true) a w hh) h2
          unfold Oper.wp at this ⊢
          generalize (execOp a.eval o).run P w = res at this ⊢
          cases res with
          | ok x w' =>
            cases x <;> simp only [Oper.upon] at this ⊢ <;> exact this
          | halt x w' => cases x <;> simp only [Oper.upon] at this ⊢ <;> exact this
        · exact absurd h2 OnlyN_no
      · rename_i hw
        rw [if_neg hw] at h2
        exact ⟨fun _ _ => trivial, wpAnyIn_of_wpAny hd f _ _ _ h2⟩

variable {l : List Oper} {Q : Exit → Act → World → Prop} {a : Act} {w : World}
/-- A region in a round that does not draw its order. -/
theorem wpIn_list {id : Nat} (hd : noDefer l = true) (h : wpList P l.toArray (OnlyN Q) l a w) : (Code.region id l.toArray false).wpIn (Fence.wide.inRound l0) n P Q a w :=
  wpIn_region_lit (wpListIn_of_wpList l a w hd h)
/-- A region in a round that draws its order. -/
theorem wpIn_free {id : Nat} (m : Nat) (hd : noDefer l = true) (hm : P.follows .mixedOrders = true) (hF : freeB l.toArray m none = true) (hT : tailB l.toArray m = true) (hms : m ≤ l.length)
    (h : ∀ K : Act → Prop, (∀ a', (∀ w', Below w.heap.size w w' → wpList P l.toArray (OnlyN Q) (l.drop m) a' w') → K a') → Obl P l.toArray w none 0 (l.take m) a K) : (Code.region id l.toArray true).wpIn (Fence.wide.inRound l0) n P Q a w :=
  wpIn_region_any hm (wpAnyIn_of_wpAny (by simpa using hd) _ _ _ _ (any_free0 hF hT hms (h _ fun _ h => h)))
end
end Go.Proofs
namespace Go.Proofs
open Go.RowKit Gas
attribute [local go_sem ↓] Go.wp_at_zero Go.wp_at_succ

theorem mx (a b : Int) : (if a < b then b else a) = max a b := by split <;> omega
theorem mn (a b : Int) : (if b < a then b else a) = min a b := by split <;> omega
set_option maxHeartbeats 1000000 in
theorem after_c (lo hi r dl dh mh : Int) (m d : Nat) (hlo : 0 ≤ lo ∧ lo ≤ 20000) (hhi : 0 ≤ hi ∧ hi ≤ 20000) (hr : 0 ≤ r ∧ r ≤ 1000) (hdl : 0 ≤ dl ∧ dl ≤ 100) (hdh : 0 ≤ dh ∧ dh ≤ 100) (hm : m ≤ 10000) (hd : mh = m + d) (hd2 : d ≤ 10000) (w : World) :
    Calls Tryz.prog 123 #[.agg #[.int .i64 lo, .int .i64 hi], .int .i64 r, .agg #[.int .i64 dl, .int .i64 dh, .int .i64 m, .int .i64 mh]] w fun e w' =>
      e = .returned (.agg #[.int .i64 (allF lo hi r dl dh m d).1, .int .i64 (allF lo hi r dl dh m d).2]) ∧ Below w.heap.size w w' := by
  have HD := Lib.hid hd
  have e0 : 0 ≤ mh ∧ mh ≤ 20000 := by omega
  have e1 : 0 ≤ mh - m ∧ mh - m ≤ 10000 := by omega
  obtain ⟨e2, e3⟩ := e0
  obtain ⟨e4, e5⟩ := e1
  have HL := Lib.hid fun n => loadF_bd (B := 20000) (n := n) hr hdl.1 hlo.1 hlo.2 (by unfold pres; omega)
  have HH := Lib.hid fun n => loadF_bd (B := 20000) (n := n) hr hdh.1 hhi.1 hhi.2 (by unfold pres; omega)
  clear hd
  go_enter Tryz.func123, Tryz.ntmps123
  go_wp2
  have g1 := Has.new (w.alloc (.cells #[.int .i64 lo, .int .i64 hi] 43)) 80 #[.int .i64 dl, .int .i64 dh, .int .i64 m, .int .i64 mh]
  have g0 := (Has.new w 43 #[.int .i64 lo, .int .i64 hi]).alloc (.cells #[.int .i64 dl, .int .i64 dh, .int .i64 m, .int .i64 mh] 80)
  have g2 := Has.new ((w.alloc (.cells #[.int .i64 lo, .int .i64 hi] 43)).alloc (.cells #[.int .i64 dl, .int .i64 dh, .int .i64 m, .int .i64 mh] 80)) 43 #[.int .i64 0, .int .i64 0]
  replace g1 := g1.alloc (.cells #[.int .i64 0, .int .i64 0] 43)
  replace g0 := g0.alloc (.cells #[.int .i64 0, .int .i64 0] 43)
  have HB0w := Lib.hid (Below.refl w.heap.size w)
  have B0 := newB (newB (newB (Below.refl w.heap.size w) (.cells #[.int .i64 lo, .int .i64 hi] 43)) (.cells #[.int .i64 dl, .int .i64 dh, .int .i64 m, .int .i64 mh] 80)) (.cells #[.int .i64 0, .int .i64 0] 43)
  simp only [World.size_alloc] at g0 g1 g2
  generalize ((w.alloc (.cells #[.int .i64 lo, .int .i64 hi] 43)).alloc (.cells #[.int .i64 dl, .int .i64 dh, .int .i64 m, .int .i64 mh] 80)).alloc (.cells #[.int .i64 0, .int .i64 0] 43) = W at *
  refine wp_free1 22 21 43 #[.int .i64 0, .int .i64 0] (by kernel_rfl) (by kernel_rfl) (by kernel_rfl) (by decide) (by decide) rfl ⟨rfl, fun a w => by kernel_rfl⟩ ?_
  intro K hK
  repeat' (first
      | (apply Obl.makes)
      | (apply Obl.call (by decide) rfl; (intro w' hb; go_simp; exact ⟨rfl, rfl⟩); (intro w' hb; exact same_calls (load_c _ _ _ _ (by omega) (by omega) (by omega) (by omega) _)))
      | (apply Obl.val (by decide) rfl; (intro w' hb; go_simp; rfl))
      | (apply Obl.val (by decide) rfl; (intro w' hb; have := (g0.after hb).cell; have := (g1.after hb).cell; go_simp; rfl)))
  apply Obl.nil
  apply hK
  intro B w1 hb hBB hB
  simp only [Act.put, List.setIfInBounds_toArray, List.set_cons_zero, List.set_cons_succ, List.drop_succ_cons, List.drop_zero]
  have f0 := Lib.hid (g0.after hb); have f1 := Lib.hid (g1.after hb); have f2 := Lib.hid (g2.after hb)
  have HB1 := Lib.hid (nextB B0 hb)
  have hz := nextB B0 hb |>.size
  have hlt := hB.lt
  have q0 := hB.cell; have q1 := hB.frozen; have q2 := (g1.after hb).cell
  have hz1 := (g2.after hb).lt
  have hz2 := g2.lt
  have l1 : w.heap.size + 1 < w1.heap.size := by omega
  have n0 : ¬ B = w1.heap.size := by omega
  have n1 : ¬ w1.heap.size = B := by omega
  have n2 : ¬ B = w.heap.size + 1 := by omega
  have n3 : ¬ w.heap.size + 1 = B := by omega
  have n4 : ¬ w.heap.size + 1 = w1.heap.size := by omega
  have n5 : ¬ w1.heap.size = w.heap.size + 1 := by omega
  have HB0 := Lib.hid hB
  clear g0 g1 g2 hb hB B0 hK K
  have HR := Lib.hid f2
  go_wp2
  go_loopw [38] (fun v wr => ∃ k : Nat, k ≤ d ∧ v = .int .i64 k ∧ Below w.heap.size w wr ∧ w1.heap.size < wr.heap.size ∧ Has wr (w.heap.size + 1) 80 #[.int .i64 dl, .int .i64 dh, .int .i64 m, .int .i64 mh] ∧ Has wr (w.heap.size + 1 + 1) 43 #[.int .i64 0, .int .i64 0] ∧
      Has wr B 43 #[.int .i64 (loadF lo r dl (m + k)), .int .i64 (loadF hi r dh (m + k))] ∧ Has wr w1.heap.size 43 #[.int .i64 (allF lo hi r dl dh m k).1, .int .i64 (allF lo hi r dl dh m k).2]) (fun v _ => d - (intOf v).toNat)
  case atStart =>
    refine ⟨0, by omega, rfl, ?_, by simp, ?_, ?_, ?_, ?_⟩
    · exact newB (setB (setB HB1.out (by show w.heap.size ≤ B; omega) _) (by show w.heap.size ≤ B; omega) _) _
    · exact ((f1.out.far (by show w.heap.size + 1 ≠ B; omega) _).far (by show w.heap.size + 1 ≠ B; omega) _).alloc _
    · exact ((f2.out.far (by show w.heap.size + 1 + 1 ≠ B; omega) _).far (by show w.heap.size + 1 + 1 ≠ B; omega) _).alloc _
    · exact (((HB0.out.set 0 _).set 1 _).alloc _).eq (by simp)
    · exact Has.new' _ _ _ (by simp)
  case round =>
    obtain ⟨k, hk, rfl, hB, hsz, c1, c2, c3, c4⟩ := hrel
    have HB := Lib.hid hB; have C2 := Lib.hid c2
    have hl3 := c3.lt
    have hl1 := c1.lt
    clear hB c2 q0 q1 q2
    by_cases hkd : k < d
    · have hlt2 : (k : Int) < mh - m := by have := HD.out; omega
      go_wp2
      refine wp_free 15 (by kernel_rfl) (by kernel_rfl) (by kernel_rfl) (by decide) ?_
      intro K hK
      repeat' (first
        | (apply Obl.call (by decide) rfl; (intro w' hb; go_simp; exact ⟨rfl, rfl⟩); (intro w' hb; exact same_calls (minute_c _ _ _ (by first | exact HL.out _ | exact HH.out _) (by omega) (by omega) _)))
        | (apply Obl.val (by decide) rfl; (intro w' hb; go_simp; rfl))
        | (apply Obl.val (by decide) rfl; (intro w' hb; have := (c1.after hb).cell; have := (c3.after hb).cell; go_simp; rfl)))
      apply Obl.nil
      apply hK
      intro w2 hb
      simp only [Act.put, List.setIfInBounds_toArray, List.set_cons_zero, List.set_cons_succ, List.drop_succ_cons, List.drop_zero]
      clear hK K
      have C1 := Lib.hid (c1.after hb); have C3 := Lib.hid (c3.after hb); have C4 := Lib.hid (c4.after hb); have CR := Lib.hid (C2.out.after hb); have HB2 := Lib.hid (nextB HB.out hb)
      have r3 := (c3.after hb).cell; have r4 := (c4.after hb).cell; have s3 := (c3.after hb).frozen; have s4 := (c4.after hb).frozen
      have hs2 := hb.size
      clear c1 c3 c4 hb
      go_wp2
      go_roundw
      case rel =>
        refine ⟨k + 1, by omega, by go_num, ?_, ?_, ?_, ?_, ?_, ?_⟩
        · exact setB (setB (setB (setB HB2.out (by show w.heap.size ≤ B; omega) _) (by show w.heap.size ≤ B; omega) _) (by show w.heap.size ≤ w1.heap.size; omega) _) (by show w.heap.size ≤ w1.heap.size; omega) _
        · simp; omega
        · exact (((C1.out.far (by show w.heap.size + 1 ≠ B; omega) _).far (by show w.heap.size + 1 ≠ B; omega) _).far (by show w.heap.size + 1 ≠ w1.heap.size; omega) _).far (by show w.heap.size + 1 ≠ w1.heap.size; omega) _
        · exact (((CR.out.far (by show w.heap.size + 1 + 1 ≠ B; omega) _).far (by show w.heap.size + 1 + 1 ≠ B; omega) _).far (by show w.heap.size + 1 + 1 ≠ w1.heap.size; omega) _).far (by show w.heap.size + 1 + 1 ≠ w1.heap.size; omega) _
        · exact ((((C3.out.set 0 _).set 1 _).far (by show B ≠ w1.heap.size; omega) _).far (by show B ≠ w1.heap.size; omega) _).eq (by simp [loadF])
        · exact (((((C4.out.far (by show w1.heap.size ≠ B; omega) _).far (by show w1.heap.size ≠ B; omega) _).set 0 _).set 1 _)).eq (by simp [allF, nowF, loadF, mx, mn])
      case measure => simp [intOf]; omega
    · obtain rfl : k = d := by omega
      have hlt2 : ¬ (k : Int) < mh - m := by have := HD.out; omega
      have C4 := Lib.hid c4
      have r4 := c4.cell
      clear c1 c3 c4
      go_wp2_with (first
        | (refine wpList_load_row rfl 43 _ rfl w1.heap.size rfl 43 _ (0, 0) _ C4.out Tryz.underlying43 rfl (by kernel_rfl) ?_)
        | (refine wpList_store_all rfl 43 _ _ rfl (w.heap.size + 1 + 1) rfl _ rfl 43 _ C2.out (by kernel_rfl) rfl (by simp [Value.oneCell']) ?_))
      exact bodyPost_ret (results_cell_row Tryz.results123 _ _ (w.heap.size + 1 + 1) 43 _ (0, 0) _ rfl (C2.out.setRow _) Tryz.underlying43 rfl (by kernel_rfl)) rfl ⟨rfl, rowB HB.out (by omega) _⟩
end Go.Proofs
namespace Go.Proofs
open Go.RowKit

def bk (p r : Int) : Value := .agg #[.int .i64 p, .int .i64 r]
def sv (v : Int × Int) : Value := .agg #[.int .i64 v.1, .int .i64 v.2]
theorem bk_inj {p r p' r' : Int} (h : bk p r = bk p' r') : p = p' ∧ r = r' := by
  unfold bk at h
  simpa using h

theorem eq168 (p r p' r' : Int) (w : World) : (Op.equal 145 (bk p r) (bk p' r')).run Tryz.prog w = .ok (p == p' && r == r') w := by
  unfold Op.equal Op.maxDepth bk
  rw [run_equalIn_struct _ _ _ _ _ (by kernel_rfl) (by kernel_rfl)]
  simp [go_sem, Op.eqFields, Tryz.underlying145, Program.fieldsOf]
  split
  · split <;> simp_all
  · simp_all
theorem chk168 (em : Bool) (p r : Int) (w : World) : (Instr.checkKey em 10000 145 (bk p r)).run Tryz.prog w = .ok () w := by kernel_rfl
theorem stays168 (p r : Int) (w : World) : (Instr.keyThatStays (bk p r) (bk p r)).run Tryz.prog w = .ok (bk p r) w := by
  unfold Instr.keyThatStays
  have : Instr.sameBits 10000 (bk p r) (bk p r) = true := by simp [bk, Instr.sameBits]
  simp [this]

theorem ask168 (p r : Int) (w : World) : ∀ (es : List MapEntry) (i : Nat), (∀ e ∈ es, ∃ p' r', e.key = bk p' r') →
    ((Instr.findAsking 145 (bk p r) es i).run Tryz.prog w = .ok none w ∧ ∀ e ∈ es, e.key ≠ bk p r) ∨
    ∃ j e, (Instr.findAsking 145 (bk p r) es i).run Tryz.prog w = .ok (some (i + j, e.val)) w ∧ es[j]? = some e ∧ e.key = bk p r
  | [], i, _ => .inl ⟨rfl, fun _ h => absurd h List.not_mem_nil⟩
  | e :: es, i, h => by
    obtain ⟨p', r', he⟩ := h e (by simp)
    have ih := ask168 p r w es (i + 1) (fun x hx => h x (by simp [hx]))
    simp only [Instr.findAsking, Sem.run_bind, he, eq168, Result.andThen_ok]
    by_cases hk : p = p' ∧ r = r'
    · obtain ⟨rfl, rfl⟩ := hk
      right
      exact ⟨0, e, by simp, rfl, he⟩
    · have hb : (p == p' && r == r') = false := by
        simp only [Bool.and_eq_false_iff, beq_eq_false_iff_ne]
        by_cases hp : p = p'
        · exact .inr fun hr => hk ⟨hp, hr⟩
        · exact .inl hp
      rw [hb]
      simp only [Bool.false_eq_true, if_false]
      rcases ih with ⟨h1, h2⟩ | ⟨j, x, h1, h2, h3⟩
      · left
        refine ⟨h1, fun x hx => ?_⟩
        rcases List.mem_cons.1 hx with rfl | hx
        · rw [he]; intro h'
          obtain ⟨h4, h5⟩ := bk_inj h'
          exact hk ⟨h4.symm, h5.symm⟩
        · exact h2 x hx
      · right
        refine ⟨j + 1, x, ?_, by simpa using h2, h3⟩
        rw [h1]; congr 3; omega

theorem find168 (p r : Int) (w : World) (es : List MapEntry) (h : ∀ e ∈ es, ∃ p' r', e.key = bk p' r') :
    ((Instr.findKey 145 (bk p r) es).run Tryz.prog w = .ok none w ∧ ∀ e ∈ es, e.key ≠ bk p r) ∨
    ∃ j e, (Instr.findKey 145 (bk p r) es).run Tryz.prog w = .ok (some (j, e.val)) w ∧ es[j]? = some e ∧ e.key = bk p r := by
  have hu := @run_underlying Tryz.prog _ _ Tryz.underlying145 w
  simp only [Instr.findKey, Sem.run_bind, hu, Result.andThen_ok]
  cases es with
  | nil => exact .inl ⟨rfl, fun _ h => absurd h List.not_mem_nil⟩
  | cons e es =>
    obtain ⟨p', r', he⟩ := h e (by simp)
    have : Instr.findNow (.struct (Tryz.prog.fieldsOf 145)) (bk p r) (e :: es) 0 = none := by
      simp [Instr.findNow, Instr.sameNow]
    have hn : Instr.findNow (TypeDesc.struct
      #[{ name := "part", type := 3, offset := 0, embedded := false, tag := "", pkgPath := "bathyal/gas",
          byteOffset := 0 },
        { name := "rate", type := 3, offset := 1, embedded := false, tag := "", pkgPath := "bathyal/gas",
          byteOffset := 8 }]) (bk p r) (e :: es) 0 = none := by simp [Instr.findNow, Instr.sameNow]
    rw [hn]
    simpa using ask168 p r w (e :: es) 0 h

/-- Block b is a map that reads as f. -/
structure MapAt (w : World) (b : Nat) (f : Int → Int → Option (Int × Int)) : Prop where
  ex : ∃ es ck, w.heap[b]? = some (.map es ck) ∧ es.toList.Pairwise (fun x y => x.key ≠ y.key) ∧ (∀ e ∈ es.toList, ∃ p r v, e.key = bk p r ∧ e.val = sv v ∧ f p r = some v) ∧
    ∀ p r v, f p r = some v → ∃ e ∈ es.toList, e.key = bk p r
section
variable {w w' : World} {b : Nat} {f : Int → Int → Option (Int × Int)}
theorem MapAt.same (h : MapAt w b f) (he : w'.heap[b]? = w.heap[b]?) : MapAt w' b f := by
  obtain ⟨es, ck, h1, h2⟩ := h.ex
  exact ⟨es, ck, he.trans h1, h2⟩
theorem MapAt.lt (h : MapAt w b f) : b < w.heap.size := by
  obtain ⟨es, ck, h1, _⟩ := h.ex
  exact (Array.getElem?_eq_some_iff.1 h1).1
theorem MapAt.keep (h : MapAt w b f) (hb : Below w.heap.size w w') : MapAt w' b f := h.same (hb.block b h.lt)
theorem MapAt.new (w : World) : MapAt (w.alloc (.map #[] 0)) w.heap.size (fun _ _ => none) :=
  ⟨#[], 0, World.alloc_heap_new w _, by simp, by simp, fun _ _ _ h => by cases h⟩

theorem MapAt.lookup (h : MapAt w b f) {p r : Int} {v : Int × Int} (hv : f p r = some v) : (Instr.lookup 106 (.map (some b)) (bk p r) false).run Tryz.prog w = .ok (sv v) w := by
  obtain ⟨es, ck, h1, h2, h3, h4⟩ := h.ex
  have hu := @run_underlying Tryz.prog _ _ Tryz.underlying106 w
  have hg : (getObj b).run Tryz.prog w = .ok (.map es ck) w := by simp [getObj, Sem.run, h1]
  obtain ⟨e0, he0, hk0⟩ := h4 p r v hv
  rcases find168 p r w es.toList (fun e he => by obtain ⟨p', r', _, hk, _⟩ := h3 e he; exact ⟨p', r', hk⟩) with ⟨_, h6⟩ | ⟨j, e, h5, h6, h7⟩
  · exact absurd hk0 (h6 e0 he0)
  · obtain ⟨p', r', v', k1, k2, k3⟩ := h3 e (List.mem_of_getElem? h6)
    obtain ⟨rfl, rfl⟩ := bk_inj (k1.symm.trans h7)
    rw [hv] at k3; cases k3
    simp only [Instr.lookup, Sem.run_bind, hu, hg, chk168, h5, Result.andThen_ok, Sem.run_pure, k2]
    rfl

theorem MapAt.update (h : MapAt w b f) (p r : Int) (v : Int × Int) : ∃ o, o.isCells = false ∧ (Instr.mapUpdate 106 (.map (some b)) (bk p r) (sv v)).run Tryz.prog w = .ok () (w.putObj b o) ∧
    MapAt (w.putObj b o) b (fun p' r' => if p' = p ∧ r' = r then some v else f p' r') := by
  obtain ⟨es, ck, h1, h2, h3, h4⟩ := h.ex
  have hlt := h.lt
  have hu := @run_underlying Tryz.prog _ _ Tryz.underlying106 w
  have hg : (getObj b).run Tryz.prog w = .ok (.map es ck) w := by simp [getObj, Sem.run, h1]
  have hs : ∀ es' ck', (setObj b (.map es' ck')).run Tryz.prog w = .ok () (w.putObj b (.map es' ck')) := fun es' ck' => by simp [setObj, Sem.run, h1, World.putObj]
  rcases find168 p r w es.toList (fun e he => by obtain ⟨p', r', _, hk, _⟩ := h3 e he; exact ⟨p', r', hk⟩) with ⟨h5, h6⟩ | ⟨j, e, h5, h6, h7⟩
  · refine ⟨.map (es.push { key := bk p r, val := sv v, born := ck }) (ck + 1), rfl, ?_, ⟨_, _, World.putObj_heap_same hlt, ?_, ?_, ?_⟩⟩
    · simp only [Instr.mapUpdate, Sem.run_bind, hu, hg, chk168, h5, Result.andThen_ok, hs]
    · rw [Array.toList_push, List.pairwise_append]
      refine ⟨h2, by simp, fun x hx y hy => ?_⟩
      simp at hy; subst hy
      exact h6 x hx
    · intro x hx
      rw [Array.toList_push, List.mem_append] at hx
      rcases hx with hx | hx
      · obtain ⟨p', r', v', k1, k2, k3⟩ := h3 x hx
        refine ⟨p', r', v', k1, k2, ?_⟩
        rw [if_neg, k3]
        rintro ⟨rfl, rfl⟩
        exact h6 x hx k1
      · simp at hx; subst hx
        exact ⟨p, r, v, rfl, rfl, by simp⟩
    · intro p' r' v' hv
      by_cases hk : p' = p ∧ r' = r
      · obtain ⟨rfl, rfl⟩ := hk
        exact ⟨{ key := bk p' r', val := sv v, born := ck }, by rw [Array.toList_push]; simp, rfl⟩
      · rw [if_neg hk] at hv
        obtain ⟨x, hx, hxk⟩ := h4 p' r' v' hv
        exact ⟨x, by rw [Array.toList_push]; simp [hx], hxk⟩
  · have hj : j < es.toList.length := (List.getElem?_eq_some_iff.1 h6).1
    have hje : es[j]? = some e := by simpa using h6
    have hj' : j < es.size := by simpa using hj
    have e2 : (es.modify j fun e => { e with key := bk p r, val := sv v }).toList = es.toList.set j { e with key := bk p r, val := sv v } := by
      apply List.ext_getElem?
      intro i
      simp only [Array.toList_modify, List.getElem?_modify, List.getElem?_set]
      by_cases hij : j = i
      · subst hij; rw [if_pos rfl, if_pos hj]; simp [h6]
      · simp [hij]
    refine ⟨.map (es.modify j fun e => { e with key := bk p r, val := sv v }) ck, rfl, ?_, ⟨_, _, World.putObj_heap_same hlt, ?_, ?_, ?_⟩⟩
    · simp only [Instr.mapUpdate, Sem.run_bind, hu, hg, chk168, h5, Result.andThen_ok, hje, Option.map_some, Option.getD_some, h7, stays168, hs]
    · rw [e2]
      rw [List.pairwise_iff_getElem] at h2 ⊢
      intro i k hi hk hik
      simp only [List.length_set] at hi hk
      have hke : ∀ i (hi : i < es.toList.length), ((es.toList.set j { e with key := bk p r, val := sv v })[i]'(by simpa using hi)).key = es.toList[i].key := by
        intro i hi
        rw [List.getElem_set]
        split
        · rename_i hji; subst hji
          have : es.toList[j] = e := by simpa [List.getElem?_eq_getElem hj] using h6
          rw [this, h7]
        · rfl
      rw [hke i hi, hke k hk]
      exact h2 i k hi hk hik
    · intro x hx
      rw [e2] at hx
      obtain ⟨i, hi, rfl⟩ := List.getElem_of_mem hx
      have hi' : i < es.toList.length := by simpa using hi
      rw [List.getElem_set]
      split
      · exact ⟨p, r, v, rfl, rfl, by simp⟩
      · rename_i hji
        obtain ⟨p', r', v', k1, k2, k3⟩ := h3 _ (List.getElem_mem hi')
        refine ⟨p', r', v', k1, k2, ?_⟩
        rw [if_neg, k3]
        rintro ⟨rfl, rfl⟩
        rw [List.pairwise_iff_getElem] at h2
        have hej : es.toList[j] = e := by simpa [List.getElem?_eq_getElem hj] using h6
        rcases Nat.lt_or_gt_of_ne hji with hl | hl
        · exact h2 j i hj hi' hl (by rw [hej, h7, k1])
        · exact h2 i j hi' hj hl (by rw [hej, h7, k1])
    · intro p' r' v' hv
      rw [e2]
      by_cases hk : p' = p ∧ r' = r
      · obtain ⟨rfl, rfl⟩ := hk
        exact ⟨_, List.mem_set hj _, rfl⟩
      · rw [if_neg hk] at hv
        obtain ⟨x, hx, hxk⟩ := h4 p' r' v' hv
        obtain ⟨i, hi, rfl⟩ := List.getElem_of_mem hx
        have hji : j ≠ i := by
          rintro rfl
          have hej : es.toList[j] = e := by simpa [List.getElem?_eq_getElem hj] using h6
          rw [hej, h7] at hxk
          obtain ⟨h8, h9⟩ := bk_inj hxk
          exact hk ⟨h8.symm, h9.symm⟩
        refine ⟨es.toList[i], ?_, hxk⟩
        have : (es.toList.set j { e with key := bk p r, val := sv v })[i]'(by simpa using hi) = es.toList[i] := by rw [List.getElem_set, if_neg hji]
        rw [← this]
        exact List.getElem_mem _
end
end Go.Proofs
namespace Go.Proofs
open Go.RowKit Go.Shelf Gas
attribute [local go_sem] Oper.semAt_some

/-- The cells of a dive that is followed. -/
def folC (t : Tm) (m : Value) (k : Bool) : Array Value := #[.slice t.pA t.pn t.pc, .slice t.sA t.sn t.sc, .slice t.rA t.rn t.rc, m, .bool k]

theorem rates_c (c0 c1 c2 c3 c4 : Value) (part : Int) (w : World) :
    Calls Tryz.prog 121 #[.agg #[c0, c1, c2, c3, c4], .int .i64 part] w fun e w' => e = .returned (.func (.func 134) #[] #[.pointer (some ⟨w.heap.size, 0, none⟩), .pointer (some ⟨w.heap.size + 1, 0, none⟩)]) ∧
      w' = (w.alloc (.cells #[c0, c1, c2, c3, c4] 108)).alloc (.cells #[.int .i64 part] 3) := by
  go_enter Tryz.func121, Tryz.ntmps121
  go_wp2
  go_ret
  exact ⟨rfl, rfl⟩

/-- A rate of a span. -/
abbrev Rt (lo hi : Int) := { x : Int // lo ≤ x ∧ x ≤ hi }
def ratesN (lo hi : Int) : Nat := (hi + 1 - lo).toNat
def ratesL (lo : Int) (n : Nat) : List Int := (List.range n).map fun k : Nat => lo + (k : Int)
theorem ratesL_succ (lo : Int) (n : Nat) : ratesL lo (n + 1) = ratesL lo n ++ [lo + n] := by simp [ratesL, List.range_succ]

/-- Below L all blocks but one lie as they lay. -/
structure Kx (L mb : Nat) (W W' : World) : Prop where
  size : W.heap.size ≤ W'.heap.size
  same : ∀ k, k < L → k ≠ mb → W'.heap[k]? = W.heap[k]?
theorem Kx.refl (L mb : Nat) (W : World) : Kx L mb W W := ⟨Nat.le_refl _, fun _ _ _ => rfl⟩
theorem Kx.trans {L mb : Nat} {A B C : World} (h : Kx L mb A B) (k : Kx L mb B C) : Kx L mb A C := ⟨Nat.le_trans h.size k.size, fun i hi hm => (k.same i hi hm).trans (h.same i hi hm)⟩
theorem Kx.has {L mb : Nat} {W W' : World} (h : Kx L mb W W') {g : Nat} {t : TypeId} {cs : Array Value} (hg : Has W g t cs) (hl : g < L) (hm : g ≠ mb) : Has W' g t cs := (h.same g hl hm).trans hg
theorem Kx.cell {L mb : Nat} {W W' : World} (h : Kx L mb W W') {b o : Nat} (hl : b < L) (hm : b ≠ mb) : W'.cell? ⟨b, o, none⟩ = W.cell? ⟨b, o, none⟩ := World.cell?_of_block (a := ⟨b, o, none⟩) (h.same b hl hm)
theorem Kx.putObj {L mb : Nat} (W : World) {l : Nat} (o : Obj) (hl : L ≤ l) : Kx L mb W (W.putObj l o) := ⟨by simp [World.putObj], fun k hk _ => World.putObj_heap_other (by omega)⟩

set_option maxRecDepth 100000 in
set_option maxHeartbeats 1000000 in
theorem rates1_in (F : Fence) (n : Nat) (h6 : F.fn 134) (hro : F.round = none) (hn : 1 ≤ n) (l bf bp L mb b o part : Nat) (t : Tm) (m : Value) (kp : Bool) (lo hi : Int) (hlo : 0 ≤ lo ∧ lo ≤ hi ∧ hi ≤ 1000000) (hp : part < t.rn) (hra : t.rA = some ⟨b, o, none⟩) (J Jx : List (Rt lo hi) → World → Prop)
    (hY : ∀ pre x W, J pre W → pre.length < ratesN lo hi → YieldAt F (n - 1) Tryz.prog l #[.int .i64 x.1] W fun e W' =>
      (e = .returned (.bool true) ∧ J (pre ++ [x]) W' ∧ Kx L mb W W') ∨ (e = .returned (.bool false) ∧ Jx (pre ++ [x]) W'))
    (W : World) (hbf : Has W bf 108 (folC t m kp)) (hbp : Has W bp 3 #[.int .i64 part]) (hf : bf < L) (hpp : bp < L) (hb : b < L) (hf2 : bf ≠ mb) (hp2 : bp ≠ mb) (hb2 : b ≠ mb)
    (hc0 : W.cell? ⟨b, o + part * 2, none⟩ = some (.int .i64 lo)) (hc1 : W.cell? ⟨b, o + part * 2 + 1, none⟩ = some (.int .i64 hi)) (h0 : J [] W) :
    CallsIn F n Tryz.prog 134 #[.func (.yield l) #[] #[], .pointer (some ⟨bf, 0, none⟩), .pointer (some ⟨bp, 0, none⟩)] W fun e W' => (∃ v, e = .returned v) ∧
      ((∃ ys : List (Rt lo hi), ys.map (·.1) = ratesL lo (ratesN lo hi) ∧ J ys W') ∨ (∃ pre : List (Rt lo hi), True ∧ Jx pre W')) := by
  obtain ⟨l0, l1, l2⟩ := hlo
  obtain ⟨pA, sA, rA, pn, pc, sn, sc, rn, rc, ps, ss, rs⟩ := t
  simp only at hra hp
  subst hra
  simp only [folC] at hbf
  have g0 := hbf.cell; have g1 := hbp.cell
  have GF := Lib.hid hbf; have GP := Lib.hid hbp
  clear hbf hbp
  refine callsIn_of_wp Tryz.func134 rfl h6 ?_ hro
  simp only [Tryz.ntmps134, List.size_toArray, List.length_cons, List.length_nil, Nat.reduceAdd, Nat.reduceSub, Array.replicate_succ, Array.replicate_zero, List.push_toArray, List.append_toArray, List.nil_append, List.cons_append]
  gi_wp2
  gi_loopw [4] (fun v wr => ∃ (k : Nat) (pre : List (Rt lo hi)), k ≤ ratesN lo hi ∧ v = .int .i64 (lo + k) ∧ pre.map (·.1) = ratesL lo k ∧ J pre wr ∧ Kx L mb W wr)
    (fun v _ => (hi + 1 - intOf v).toNat)
  case atStart => exact ⟨0, [], by omega, by simp, rfl, h0, Kx.refl _ _ _⟩
  case round =>
    obtain ⟨k, pre, hk, rfl, hpre, hJ, hB⟩ := hrel
    have HB := Lib.hid hB; have HJ := Lib.hid hJ; have HP := Lib.hid hpre
    have q0 := (hB.has GF.out hf hf2).cell; have q1 := (hB.has GP.out hpp hp2).cell
    have q2 := (hB.cell (o := o + part * 2 + 1) hb hb2).trans hc1
    clear hB g0 g1 hc0 hc1 hJ hpre
    have hN : (ratesN lo hi : Int) = hi + 1 - lo := by unfold ratesN; omega
    by_cases hlt : k < ratesN lo hi
    · have d1 : lo + (k : Int) ≤ hi := by omega
      have hlen : pre.length = k := by have := congrArg List.length HP.out; simpa [ratesL] using this
      obtain ⟨fn, tmps, assign, body, hy, hR⟩ := hY pre ⟨lo + k, by omega, d1⟩ wr HJ.out (by omega)
      clear hN
      gi_wp2
      refine hR.mono ?_
      rintro e W3 (⟨rfl, hJ3, hk3⟩ | ⟨rfl, hJx3⟩)
      · gi_wp2
        go_roundw
        case rel => exact ⟨k + 1, pre ++ [⟨lo + k, by omega, d1⟩], by omega, by congr 1; omega, by rw [ratesL_succ, List.map_append, HP.out]; rfl, hJ3, HB.out.trans hk3⟩
        case measure => simp [intOf]; omega
      · gi_wp2
        refine bodyPost_ret (results_none rfl _ _ _) rfl ?_
        exact ⟨⟨_, rfl⟩, .inr ⟨_, trivial, hJx3⟩⟩
    · have d1 : ¬ lo + (k : Int) ≤ hi := by omega
      gi_wp2
      go_end0
      have hkN : k = ratesN lo hi := by omega
      exact ⟨⟨_, rfl⟩, .inl ⟨pre, by rw [← hkN]; exact HP.out, HJ.out⟩⟩

/-- What 'f.rates(part)' hands back gives all rates, in order. -/
theorem rates_stops (F : Fence) (n : Nat) (h6 : F.fn 134) (hro : F.round = none) (hn : 1 ≤ n) (bf bp mb b o part : Nat) (t : Tm) (m : Value) (kp : Bool) (lo hi : Int) (hlo : 0 ≤ lo ∧ lo ≤ hi ∧ hi ≤ 1000000) (hp : part < t.rn) (hra : t.rA = some ⟨b, o, none⟩)
    (w : World) (hbf : Has w bf 108 (folC t m kp)) (hbp : Has w bp 3 #[.int .i64 part]) (hf2 : bf ≠ mb) (hp2 : bp ≠ mb) (hb2 : b ≠ mb)
    (hc0 : w.cell? ⟨b, o + part * 2, none⟩ = some (.int .i64 lo)) (hc1 : w.cell? ⟨b, o + part * 2 + 1, none⟩ = some (.int .i64 hi)) :
    SeqStopsK F n Tryz.prog 134 #[.pointer (some ⟨bf, 0, none⟩), .pointer (some ⟨bp, 0, none⟩)] (fun x : Rt lo hi => #[Value.int .i64 x.1]) (Kx w.heap.size mb) (fun ys => ys.map (·.1) = ratesL lo (ratesN lo hi)) (fun _ => True) (ratesN lo hi) w := fun l J Jx W hW _ _ hY h0 =>
  rates1_in F n h6 hro hn l bf bp w.heap.size mb b o part t m kp lo hi hlo hp hra J Jx hY W (hbf.after hW) (hbp.after hW) hbf.lt hbp.lt (block_lt_of_cell hc0) hf2 hp2 hb2
    ((hW.cell (p := ⟨b, o + part * 2, none⟩) (block_lt_of_cell hc0)).trans hc0) ((hW.cell (p := ⟨b, o + part * 2 + 1, none⟩) (block_lt_of_cell hc1)).trans hc1) h0
end Go.Proofs
namespace Go.Proofs
open Go.RowKit Go.Shelf Gas
attribute [local go_sem] Oper.semAt_some
attribute [local go_sem ↓] Go.wp_at_zero Go.wp_at_succ

/-- What the bodies hold: for each rate that a compartment can have. -/
def heldF (rs : List Pr) (h : Nat → Int → Pr) (p x : Int) : Option Pr :=
  if 0 ≤ p ∧ p < rs.length ∧ (rs.getD p.toNat (0, 0)).1 ≤ x ∧ x ≤ (rs.getD p.toNat (0, 0)).2 then some (h p.toNat x) else none
/-- Those of the first k compartments, and some of the next one's. -/
def heldTo (rs : List Pr) (h : Nat → Int → Pr) (k : Nat) (pre : List Int) (p x : Int) : Option Pr :=
  if 0 ≤ p ∧ p < k ∧ (rs.getD p.toNat (0, 0)).1 ≤ x ∧ x ≤ (rs.getD p.toNat (0, 0)).2 then some (h p.toNat x) else if p = k ∧ x ∈ pre then some (h k x) else none

/-- The marks of ranges over functions that are done. -/
structure Marks (B : Nat) (ds : List Deferred) (w : World) : Prop where
  ex : ∃ Ds : List Nat, ds = Ds.map (fun D => { target := .collected D, args := #[] }) ∧ Ds.Nodup ∧ ∀ D ∈ Ds, B ≤ D ∧ w.heap[D]? = some (.deferred (some []))

theorem wpList_mapUp {ops : Array Oper} {rest : List Oper} {o : Oper} {a : Act} {w : World} {Q : Exit → Act → World → Prop} (hg : o.guard = none) (m k v : Operand) (ho : o.op = .mapUpdate 106 m k v) {b : Nat} {f : Int → Int → Option Pr} (p r : Int) (x : Pr)
    (hm : a.eval m = .map (some b)) (hk : a.eval k = bk p r) (hv : a.eval v = sv x) (hM : MapAt w b f)
    (h : ∀ o', o'.isCells = false → MapAt (w.putObj b o') b (fun p' r' => if p' = p ∧ r' = r then some x else f p' r') → wpList Tryz.prog ops Q rest (a.put o.dst undef) (w.putObj b o')) : wpList Tryz.prog ops Q (o :: rest) a w :=
  wpList_plain hg fun _ hK => by
    obtain ⟨o', h1, h2, h3⟩ := hM.update p r x
    unfold Oper.wp execOp
    simp only [ho, hm, hk, hv, Sem.run_bind, h2, Result.andThen_ok, Sem.run_pure]
    exact hK _ _ (h o' h1 h3)

theorem grown_refl (w : World) (r : Option Nat) : w.grownBy w r := ⟨rfl, rfl, rfl, Nat.le_refl _, fun _ _ _ => rfl⟩
theorem grown_two {W A B : World} {mb : Nat} {row : Option Nat} (h : W.grownBy A (some mb)) (k : A.grownBy B row) (hr : ∀ r, row = some r → r = mb ∨ W.heap.size ≤ r) : W.grownBy B (some mb) :=
  ⟨k.os.trans h.os, k.tape.trans h.tape, k.output.trans h.output, Nat.le_trans h.size k.size, fun i hi hm => (k.block i (Nat.lt_of_lt_of_le hi h.size) (fun e => by
    rcases hr i e.symm with h1 | h1
    · exact hm (by rw [h1])
    · omega)).trans (h.block i hi hm)⟩
theorem grown_below {W A B : World} {mb : Nat} (h : W.grownBy A (some mb)) (k : Below A.heap.size A B) : W.grownBy B (some mb) :=
  ⟨k.os.trans h.os, k.tape.trans h.tape, k.output.trans h.output, Nat.le_trans h.size k.size, fun i hi hm => (k.block i (Nat.lt_of_lt_of_le hi h.size)).trans (h.block i hi hm)⟩
theorem grown_has {W A : World} {mb : Nat} (h : W.grownBy A (some mb)) {g : Nat} {t : TypeId} {cs : Array Value} (hg : Has W g t cs) (hm : g ≠ mb) : Has A g t cs := (h.block g hg.lt (fun e => hm (by cases e; rfl))).trans hg
theorem grown_kx {W A B : World} {mb : Nat} (hs : W.heap.size ≤ A.heap.size) (k : A.grownBy B (some mb)) : Kx W.heap.size mb A B := ⟨k.size, fun i hi hm => k.block i (by omega) (fun e => hm (by cases e; rfl))⟩

theorem grown_base {w W A : World} {B mb : Nat} (h : Below B w W) (k : W.grownBy A (some mb)) (hm : B ≤ mb) (hB : B ≤ W.heap.size) : Below B w A :=
  ⟨k.os.trans h.os, k.tape.trans h.tape, k.output.trans h.output, Nat.le_trans h.size k.size, fun i hi => (k.block i (by omega) (fun e => by cases e; omega)).trans (h.block i hi)⟩
theorem MapAt.congr {w : World} {b : Nat} {f g : Int → Int → Option Pr} (h : MapAt w b f) (e : ∀ p x, f p x = g p x) : MapAt w b g := by
  have : f = g := by funext p x; exact e p x
  exact this ▸ h
theorem heldTo_snoc (rs : List Pr) (h : Nat → Int → Pr) (k : Nat) (pre : List Int) (x : Int) (p r : Int) : (if p = k ∧ r = x then some (h k x) else heldTo rs h k pre p r) = heldTo rs h k (pre ++ [x]) p r := by
  unfold heldTo
  by_cases hp : p = k
  · subst hp
    by_cases hr : r = x
    · subst hr; simp
    · simp [hr]
  · simp [hp]
theorem heldTo_zero (rs : List Pr) (h : Nat → Int → Pr) (p r : Int) : none = heldTo rs h 0 [] p r := by
  unfold heldTo
  rw [if_neg (by omega), if_neg (by simp)]
theorem mem_ratesL (lo hi x : Int) : x ∈ ratesL lo (ratesN lo hi) ↔ lo ≤ x ∧ x ≤ hi := by
  unfold ratesL ratesN
  simp only [List.mem_map, List.mem_range]
  constructor
  · rintro ⟨k, hk, rfl⟩; omega
  · rintro ⟨h1, h2⟩; exact ⟨(x - lo).toNat, by omega, by omega⟩
theorem heldTo_next (rs : List Pr) (h : Nat → Int → Pr) (k : Nat) (lo hi : Int) (hk : rs.getD k (0, 0) = (lo, hi)) (p r : Int) : heldTo rs h k (ratesL lo (ratesN lo hi)) p r = heldTo rs h (k + 1) [] p r := by
  unfold heldTo
  simp only [mem_ratesL]
  by_cases hp : p = k
  · subst hp
    simp only [Int.toNat_natCast, hk]
    by_cases hr : lo ≤ r ∧ r ≤ hi
    · rw [if_neg (by omega), if_pos (by simpa using hr), if_pos (by omega)]
    · rw [if_neg (by omega), if_neg (by simpa using hr), if_neg (by omega), if_neg (by simp)]
  · by_cases h1 : 0 ≤ p ∧ p < k ∧ (rs.getD p.toNat (0, 0)).1 ≤ r ∧ r ≤ (rs.getD p.toNat (0, 0)).2
    · rw [if_pos h1, if_pos (by omega)]
    · rw [if_neg h1, if_neg (by simp [hp]), if_neg (by omega), if_neg (by simp)]
theorem heldTo_all (rs : List Pr) (h : Nat → Int → Pr) (p r : Int) : heldTo rs h rs.length [] p r = heldF rs h p r := by
  unfold heldTo heldF
  split
  · rfl
  · rw [if_neg (by simp)]

theorem leaves_marks {F : Fence} {n : Nat} {P : Program} {fn : Func} {tmps : Array Value} {R : Ending → World → Prop} : ∀ (Ds : List Nat) (w : World), Ds.Nodup → (∀ D ∈ Ds, w.heap[D]? = some (.deferred (some []))) →
    (∀ w', w'.heap.size = w.heap.size → w'.os = w.os → w'.tape = w.tape → w'.output = w.output → (∀ k, k ∉ Ds → w'.heap[k]? = w.heap[k]?) → LeavesIn F n P fn tmps R [] .returning w') →
    LeavesInM F n P fn tmps R (Ds.map (fun D => { target := .collected D, args := #[] })) .returning w
  | [], w, _, _, h => h w rfl rfl rfl rfl (fun _ _ => rfl)
  | D :: Ds, w, hn, hD, h => by
    obtain ⟨h1, h2⟩ := List.nodup_cons.1 hn
    refine ⟨by simp, .inl ⟨D, _, rfl, run_takeDeferred (hD D (by simp)), ?_⟩⟩
    refine leaves_marks Ds _ h2 (fun D' hD' => ?_) (fun w' e1 e2 e3 e4 e5 => h w' (by rw [e1]; simp [World.putObj]) e2 e3 e4 (fun k hk => ?_))
    · rw [World.putObj_heap_other (fun e => h1 (by rw [← e]; exact hD'))]
      exact hD D' (by simp [hD'])
    · rw [e5 k (fun hk' => hk (by simp [hk'])), World.putObj_heap_other (fun e => hk (by simp [e]))]

/-- A range over a function whose body never leaves. -/
theorem wp_range {P : Program} {α : Type} {g : Operand} {ps : Array Tmp} {assign body : Code} {Q : Exit → Act → World → Prop} {a : Act} {w : World} (gf : Nat) (lb : Array Value) (hg : a.eval g = .func (.func gf) #[] lb)
    (eg : ∀ args w, (callFunc gf args).run P w = .ok (.enter gf args) w) {encs : α → Array Value} {Kp : World → World → Prop} {S : List α → Prop} {N : Nat} (hseq : SeqStopsK Fence.wide 2 P gf lb encs Kp S (fun _ => True) N w)
    (hKt : ∀ {A B C : World}, Kp A B → Kp B C → Kp A C) (hKb : ∀ (W : World) (l : Nat) (o' : Obj), w.heap.size ≤ l → Kp W (W.putObj l o')) (hps : ∀ x, (encs x).size = ps.size)
    (I : List α → World → Prop) (hI : OwnFrom w.heap.size I) (h0 : I [] w) (a₁ : α → Act)
    (hassign : ∀ (l : Nat) (x : α) (W : World) (K : Act → World → Prop), K (a₁ x) W →
      assign.wpIn (Fence.wide.inRound l) 1 P (Exit.then K (fun _ _ _ => False)) { tmps := (ps.zip (encs x)).foldl (fun t (p, v) => t.setIfInBounds p v) a.tmps, defers := [] } W)
    (hbody : ∀ (l : Nat) (pre : List α) (x : α) (W : World), I pre W → pre.length < N → body.wpIn (Fence.wide.inRound l) 1 P (ownPostG w.heap.size Kp I (fun _ _ _ => False) (pre ++ [x]) W) (a₁ x) W)
    (hdone : ∀ (D : Nat) (xs : List α) (W : World), w.heap.size ≤ D → S xs → I xs W → W.heap[D]? = some (.deferred (some [])) → Q .normal { a with defers := { target := .collected D, args := #[] } :: a.defers } W) :
    (Code.rangeFunc g ps assign body).wp P Q a w :=
  (wpIn_wide (n := 3)).1 (wpIn_rangeFunc_ownG rfl (by omega) hg trivial eg hseq hKt (fun W l _ o' hl _ _ _ => hKb W l o' hl) (Below.refl _ _) hps I (fun _ _ _ => False) hI (fun _ _ _ _ _ hs _ _ => hs) h0 a₁ hassign hbody hdone (fun _ _ _ _ _ _ h _ => h.elim))

/-- A map as what a call hands back, and what it is. -/
def IsHeld (w0 : World) (f : Int → Int → Option Pr) (e : Ending) (w' : World) : Prop := ∃ b, e = .returned (.map (some b)) ∧ w0.heap.size ≤ b ∧ MapAt w' b f ∧ Below w0.heap.size w0 w'

set_option maxRecDepth 100000 in
set_option maxHeartbeats 4000000 in
theorem each_c (t : Tm) (m : Value) (kp : Bool) (gc : FuncId) (cap : Array Value) (h : Nat → Int → Pr) (hs : t.Small) (hnp : t.rn = t.pn) (hrs : t.rs.all rateB = true) (w : World) (hi : t.In w)
    (eg : ∀ args w, (callFunc gc args).run Tryz.prog w = .ok (.enter gc args) w)
    (hC : ∀ (p : Nat) (x : Int) w', p < t.rn → (t.rs.getD p (0, 0)).1 ≤ x → x ≤ (t.rs.getD p (0, 0)).2 → Below w.heap.size w w' → Calls Tryz.prog gc (#[bk p x] ++ cap) w' fun e w'' => e = .returned (sv (h p x)) ∧ Below w'.heap.size w' w'') :
    Calls Tryz.prog 96 #[.agg (folC t m kp), .func (.func gc) #[] cap] w (IsHeld w (heldF t.rs h)) := by
  obtain ⟨pA, sA, rA, pn, pc, sn, sc, rn, rc, ps, ss, rs⟩ := t
  simp only at hnp hrs hC
  subst hnp
  obtain ⟨hP, hS, hR⟩ := hi
  obtain ⟨s1, s2, s3⟩ := hs
  simp only [folC] at *
  have HP := Lib.hid hP; have HS := Lib.hid hS; have HR := Lib.hid hR; have HC := Lib.hid hC; have HA := Lib.hid hrs; have EG := Lib.hid eg
  clear hP hS hR hC hrs eg
  refine callsIn_wide.1 (callsIn_of_wp_marks (n := 3) Tryz.func96 rfl trivial ?_ rfl)
  refine wpIn_wide.2 ?_
  simp only [Tryz.ntmps96, List.size_toArray, List.length_cons, List.length_nil, Nat.reduceAdd, Nat.reduceSub, Array.replicate_succ, Array.replicate_zero, List.push_toArray, List.append_toArray, List.nil_append, List.cons_append]
  have hmm := @run_makeMap Tryz.prog
  go_wp2
  have f0 := (((Has.new w 108 #[.slice pA rn pc, .slice sA sn sc, .slice rA rn rc, m, .bool kp]).alloc (.cells #[.func (.func gc) #[] cap] 146)).alloc (.map #[] 0)).alloc (.cells #[.map (some (w.heap.size + 1 + 1))] 106)
  have f1 := ((Has.new' (w.alloc (.cells #[.slice pA rn pc, .slice sA sn sc, .slice rA rn rc, m, .bool kp] 108)) 146 #[.func (.func gc) #[] cap] (g := w.heap.size + 1) (by simp)).alloc (.map #[] 0)).alloc (.cells #[.map (some (w.heap.size + 1 + 1))] 106)
  have fM0 := MapAt.new ((w.alloc (.cells #[.slice pA rn pc, .slice sA sn sc, .slice rA rn rc, m, .bool kp] 108)).alloc (.cells #[.func (.func gc) #[] cap] 146))
  have fM := fM0.keep (newB (Below.refl _ _) (.cells #[.map (some (w.heap.size + 1 + 1))] 106))
  have f3 := Has.new' (((w.alloc (.cells #[.slice pA rn pc, .slice sA sn sc, .slice rA rn rc, m, .bool kp] 108)).alloc (.cells #[.func (.func gc) #[] cap] 146)).alloc (.map #[] 0)) 106 #[.map (some (w.heap.size + 1 + 1))] (g := w.heap.size + 1 + 1 + 1) (by simp)
  have fB : Below w.heap.size w ((((w.alloc (.cells #[.slice pA rn pc, .slice sA sn sc, .slice rA rn rc, m, .bool kp] 108)).alloc (.cells #[.func (.func gc) #[] cap] 146)).alloc (.map #[] 0)).alloc (.cells #[.map (some (w.heap.size + 1 + 1))] 106)) := newB (newB (newB (newB (Below.refl _ _) _) _) _) _
  simp only [World.size_alloc] at fM
  clear fM0
  generalize (((w.alloc (.cells #[.slice pA rn pc, .slice sA sn sc, .slice rA rn rc, m, .bool kp] 108)).alloc (.cells #[.func (.func gc) #[] cap] 146)).alloc (.map #[] 0)).alloc (.cells #[.map (some (w.heap.size + 1 + 1))] 106) = W0 at *
  refine wp_loop (fun a wr => ∃ (k : Nat) (ds : List Deferred) (u6 u7 u8 u15 u16 u17 u18 u19 u20 u21 u22 u23 u24 u25 u26 u27 u28 u29 u30 : Value), (k ≤ rn ∧ Marks w.heap.size ds wr ∧ Below w.heap.size w wr ∧ Has wr w.heap.size 108 #[.slice pA rn pc, .slice sA sn sc, .slice rA rn rc, m, .bool kp] ∧ Has wr (w.heap.size + 1) 146 #[.func (.func gc) #[] cap] ∧
      MapAt wr (w.heap.size + 1 + 1) (heldTo rs h k []) ∧ Has wr (w.heap.size + 1 + 1 + 1) 106 #[.map (some (w.heap.size + 1 + 1))]) ∧
      a = { tmps := #[.agg #[.slice pA rn pc, .slice sA sn sc, .slice rA rn rc, m, .bool kp], .func (.func gc) #[] cap, .pointer (some ⟨w.heap.size, 0, none⟩), .pointer (some ⟨w.heap.size + 1, 0, none⟩), .map none, .pointer (some ⟨w.heap.size + 1 + 1 + 1, 0, none⟩), u6, u7, u8,
        .map (some (w.heap.size + 1 + 1)), .pointer (some ⟨w.heap.size, 0, none⟩), .pointer (some ⟨w.heap.size, 0, none⟩), .slice pA rn pc, .int .i64 rn, .int .i64 k, u15, u16, u17, u18, u19, u20, u21, u22, u23, u24, u25, u26, u27, u28, u29, u30], defers := ds })
    (fun a _ => rn - (intOf (a.tmps.getD 14 undef)).toNat) ?start ?round
  case start =>
    refine ⟨0, [], _, _, _, _, _, _, _, _, _, _, _, _, _, _, _, _, _, _, _, ⟨by omega, ⟨[], rfl, by simp, by simp⟩, fB, f0, f1, fM.congr (fun p r => heldTo_zero rs h p r), f3⟩, rfl⟩
  case round =>
    rintro a wr ⟨k, ds, u6, u7, u8, u15, u16, u17, u18, u19, u20, u21, u22, u23, u24, u25, u26, u27, u28, u29, u30, ⟨hk, hM, hB, c0, c1, cM, c3⟩, rfl⟩
    have HM := Lib.hid hM; have HB := Lib.hid hB; have C0 := Lib.hid c0; have C1 := Lib.hid c1; have CM := Lib.hid cM; have C3 := Lib.hid c3
    have q0 := c0.cell
    have z0 := hB.size; have z1 := c3.lt
    clear f0 f1 fM f3 fB hM hB c0 c1 cM c3
    by_cases hkn : k < rn
    · go_wp2_with (first
        | (refine wpList_load_row rfl 108 _ rfl w.heap.size rfl 108 _ (0, 0) _ (C0.out.alloc _) Tryz.underlying108 rfl (by kernel_rfl) ?_)
        | (go_at_call 121; refine (rates_c _ _ _ _ _ _ _).mono ?_; rintro e w' ⟨rfl, rfl⟩))
      have hkl : k < rs.length := by have := HR.out.1; omega
      obtain ⟨b, o, he⟩ := HR.out.addr (by omega)
      have hx := List.getElem?_eq_getElem hkl
      obtain ⟨x, hxx⟩ : ∃ x, x = rs[k] := ⟨_, rfl⟩
      rw [← hxx] at hx
      have hgd : rs.getD k (0, 0) = x := by simp [List.getD_eq_getElem?_getD, hx]
      have hrt : rateB x = true := List.all_eq_true.1 HA.out x (List.mem_of_getElem? hx)
      obtain ⟨lo, hi⟩ := x
      simp only [rateB, ordB, decide_eq_true_eq] at hrt
      subst he
      have B1 := newB (newB (newB (Below.refl wr.heap.size wr) (.cells #[.int .i64 k] 3)) (.cells #[.slice pA rn pc, .slice sA sn sc, .slice (some ⟨b, o, none⟩) rn rc, m, .bool kp] 108)) (.cells #[.int .i64 k] 3)
      have g6 := ((Has.new wr 3 #[.int .i64 k]).alloc (.cells #[.slice pA rn pc, .slice sA sn sc, .slice (some ⟨b, o, none⟩) rn rc, m, .bool kp] 108)).alloc (.cells #[.int .i64 k] 3)
      have gf := (Has.new' (wr.alloc (.cells #[.int .i64 k] 3)) 108 #[.slice pA rn pc, .slice sA sn sc, .slice (some ⟨b, o, none⟩) rn rc, m, .bool kp] (g := wr.heap.size + 1) (by simp)).alloc (.cells #[.int .i64 k] 3)
      have gp := Has.new' ((wr.alloc (.cells #[.int .i64 k] 3)).alloc (.cells #[.slice pA rn pc, .slice sA sn sc, .slice (some ⟨b, o, none⟩) rn rc, m, .bool kp] 108)) 3 #[.int .i64 k] (g := wr.heap.size + 1 + 1) (by simp)
      have hsz : (((wr.alloc (.cells #[.int .i64 k] 3)).alloc (.cells #[.slice pA rn pc, .slice sA sn sc, .slice (some ⟨b, o, none⟩) rn rc, m, .bool kp] 108)).alloc (.cells #[.int .i64 k] 3)).heap.size = wr.heap.size + 1 + 1 + 1 := by simp
      generalize ((wr.alloc (.cells #[.int .i64 k] 3)).alloc (.cells #[.slice pA rn pc, .slice sA sn sc, .slice (some ⟨b, o, none⟩) rn rc, m, .bool kp] 108)).alloc (.cells #[.int .i64 k] 3) = Wl at *
      have HB' := nextB HB.out B1
      have hrg := ((HR.out.keep HB').range prC_len hx)
      have hc0 : Wl.cell? ⟨b, o + k * 2, none⟩ = some (.int .i64 lo) := hrg 0 _ rfl
      have hc1 : Wl.cell? ⟨b, o + k * 2 + 1, none⟩ = some (.int .i64 hi) := hrg 1 _ rfl
      have hbw : b < w.heap.size := HR.out.lt prC_len (by omega) (by omega)
      have cM' := CM.out.keep B1
      refine wp_range (α := Rt lo hi) 134 #[.pointer (some ⟨wr.heap.size + 1, 0, none⟩), .pointer (some ⟨wr.heap.size + 1 + 1, 0, none⟩)] rfl (enters_of Tryz.func134 (by kernel_rfl) rfl)
        (rates_stops Fence.wide 2 trivial rfl (by omega) (wr.heap.size + 1) (wr.heap.size + 1 + 1) (w.heap.size + 1 + 1) b o k ⟨pA, sA, some ⟨b, o, none⟩, rn, pc, sn, sc, rn, rc, ps, ss, rs⟩ m kp lo hi (by omega) hkn rfl Wl gf gp (by omega) (by omega) (by omega) hc0 hc1)
        (fun h1 h2 => h1.trans h2) (fun W l o' hl => Kx.putObj W o' hl) (fun _ => rfl)
        (fun pre W => Wl.grownBy W (some (w.heap.size + 1 + 1)) ∧ MapAt W (w.heap.size + 1 + 1) (heldTo rs h k (pre.map (·.1)))) ?own ?h0
        (fun x => { tmps := #[.agg #[.slice pA rn pc, .slice sA sn sc, .slice (some ⟨b, o, none⟩) rn rc, m, .bool kp], .func (.func gc) #[] cap, .pointer (some ⟨w.heap.size, 0, none⟩), .pointer (some ⟨w.heap.size + 1, 0, none⟩), .map none, .pointer (some ⟨w.heap.size + 1 + 1 + 1, 0, none⟩), .pointer (some ⟨wr.heap.size, 0, none⟩), .int .i64 x.1, u8,
          .map (some (w.heap.size + 1 + 1)), .pointer (some ⟨w.heap.size, 0, none⟩), .pointer (some ⟨w.heap.size, 0, none⟩), .slice pA rn pc, .int .i64 rn, .int .i64 k, .bool true, .int .i64 k, .agg #[.slice pA rn pc, .slice sA sn sc, .slice (some ⟨b, o, none⟩) rn rc, m, .bool kp], .int .i64 k,
          .func (.func 134) #[] #[.pointer (some ⟨wr.heap.size + 1, 0, none⟩), .pointer (some ⟨wr.heap.size + 1 + 1, 0, none⟩)], .int .i64 x.1, u21, u22, u23, u24, u25, u26, u27, u28, u29, u30], defers := [] }) ?assign ?body ?done
      case own =>
        rintro pre A B row ⟨hs1, hs2⟩ hg hr
        refine ⟨grown_two hs1 hg (fun r e => .inr (hr r e).1), hs2.same (hg.block _ hs2.lt (fun e => ?_))⟩
        have := (hr _ e.symm).1
        omega
      case h0 => exact ⟨grown_refl _ _, cM'⟩
      case assign =>
        intro l x W K hK
        gi_wp2
        exact hK
      case body =>
        rintro l pre x W ⟨hg, hMp⟩ hlen
        have h6 := Lib.hid (grown_has hg g6 (by omega))
        have h1 := Lib.hid (grown_has hg (C1.out.after B1) (by omega))
        have h3 := Lib.hid (grown_has hg (C3.out.after B1) (by omega))
        have q6 := (grown_has hg g6 (by omega)).cell
        have z2 := hg.size
        have HG := Lib.hid hg
        have HMp := Lib.hid hMp
        clear hg hMp g6 gf gp hc0 hc1 hrg cM'
        gi_wp2
        refine wpIn_free 5 (by kernel_rfl) (by kernel_rfl) (by kernel_rfl) (by kernel_rfl) (by decide) ?_
        have n8 := Has.new W 145 #[.int .i64 k, .int .i64 x.1]
        have BN := newB (Below.refl W.heap.size W) (.cells #[.int .i64 k, .int .i64 x.1] 145)
        have m1 := Lib.hid (h1.out.after BN); have m3 := Lib.hid (h3.out.after BN); have mM := Lib.hid (HMp.out.keep BN)
        have hcall := Lib.hid fun (w' : World) (hb : Below (W.alloc (.cells #[.int .i64 k, .int .i64 x.1] 145)).heap.size (W.alloc (.cells #[.int .i64 k, .int .i64 x.1] 145)) w') => HC.out k x.1 w' hkn (by rw [hgd]; exact x.2.1) (by rw [hgd]; exact x.2.2) ((grown_base HB' HG.out (by omega) (by omega)).trans ((BN.trans (hb.mono BN.size)).mono (by omega)))
        clear q6 q0
        generalize W.alloc (.cells #[.int .i64 k, .int .i64 x.1] 145) = Wn at *
        intro K hK
        repeat' (first
          | (refine Obl.row (by decide) rfl 145 _ rfl W.heap.size rfl 145 _ _ n8 Tryz.underlying145 rfl (by kernel_rfl) ?_)
          | (apply Obl.call (by decide) rfl; (intro w' hb; have hE := EG.out; go_simp; exact ⟨rfl, rfl⟩); (intro w' hb; exact hcall.out w' hb))
          | (apply Obl.val (by decide) rfl; (intro w' hb; have := (m1.out.after hb).cell; have := (m3.out.after hb).cell; go_simp; rfl)))
        apply Obl.nil
        apply hK
        intro w2 hb
        simp only [Act.put, List.setIfInBounds_toArray, List.set_cons_zero, List.set_cons_succ, List.drop_succ_cons, List.drop_zero]
        clear hK K hcall
        refine wpList_mapUp rfl _ _ _ rfl k x.1 (h k x.1) rfl rfl rfl (mM.out.keep hb) ?_
        intro o' ho' hM'
        have hgw : W.grownBy (w2.putObj (w.heap.size + 1 + 1) o') (some (w.heap.size + 1 + 1)) := grown_two (grown_below (grown_refl W _) (BN.trans (hb.mono BN.size))) (grownBy_putObj' _ _ _) (fun r e => by cases e; exact .inl rfl)
        refine ⟨KeepsFrom.of_grownBy hgw (fun j e => by cases e; omega), grown_kx z2 hgw, grown_two HG.out hgw (fun r e => by cases e; exact .inl rfl), hM'.congr (fun p r => ?_)⟩
        rw [heldTo_snoc, List.map_append]
        rfl
      case done =>
        rintro D ys W hD hS ⟨hg, hMp⟩ hK
        have hM1 := HM.out
        have hgd' : rs.getD k (0, 0) = (lo, hi) := hgd
        have k0 := grown_has hg (C0.out.after B1) (by omega)
        have k1 := grown_has hg (C1.out.after B1) (by omega)
        have k3 := grown_has hg (C3.out.after B1) (by omega)
        have HBW := grown_base HB' hg (by omega) (by omega)
        have HFin := Lib.hid (And.intro hM1 (And.intro k0 (And.intro k1 (And.intro k3 (And.intro HBW (And.intro hg (And.intro hMp (And.intro hK hgd'))))))))
        have hcm := CM.out
        clear hM1 hgd' k0 k1 k3 HBW hg hMp hK hc0 hc1 hrg cM' g6 gf gp
        go_wp2
        obtain ⟨hM1, k0, k1, k3, HBW, hg, hMp, hK, hgd'⟩ := HFin.out
        refine ⟨⟨k + 1, _, _, _, _, _, _, _, _, _, _, _, _, _, _, _, _, _, _, _, _, ⟨by omega, ?_, HBW, k0, k1, hMp.congr (fun p r => by rw [show List.map (fun x => x.val) ys = ratesL lo (ratesN lo hi) from hS]; exact heldTo_next rs h k lo hi hgd' p r), k3⟩, by rfl⟩, by simp [intOf]; omega⟩
        obtain ⟨Ds, e1, e2, e3⟩ := hM1.ex
        refine ⟨D :: Ds, by rw [e1]; rfl, List.nodup_cons.2 ⟨fun hm => ?_, e2⟩, fun D' hD' => ?_⟩
        · have := (Array.getElem?_eq_some_iff.1 (e3 D hm).2).1
          omega
        · rcases List.mem_cons.1 hD' with rfl | hD'
          · exact ⟨by omega, hK⟩
          · obtain ⟨e4, e5⟩ := e3 D' hD'
            have hlt := (Array.getElem?_eq_some_iff.1 e5).1
            refine ⟨e4, (hg.block D' (by omega) (fun e => ?_)).trans ((B1.block D' hlt).trans e5)⟩
            cases e
            obtain ⟨es, ck, hm, _⟩ := hcm.ex
            rw [hm] at e5; cases e5
    · obtain rfl : k = rn := by omega
      have HL := Lib.hid (HR.out.1)
      have q3 := C3.out.cell
      go_wp2
      obtain ⟨Ds, e1, e2, e3⟩ := HM.out.ex
      subst e1
      refine leaves_marks Ds _ e2 (fun D hD => (e3 D hD).2) (fun w' z1 z2 z3 z4 z5 => ?_)
      refine ⟨_, results_tmp rfl _ _ _, w.heap.size + 1 + 1, rfl, by omega, ?_, ?_⟩
      · refine (CM.out.same (z5 _ (fun hm => ?_))).congr (fun p r => ?_)
        · obtain ⟨es, ck, hm', _⟩ := CM.out.ex
          have := (e3 _ hm).2
          rw [hm'] at this; cases this
        · rw [← HL.out]; exact heldTo_all rs h p r
      · exact ⟨z2.trans HB.out.os, z3.trans HB.out.tape, z4.trans HB.out.output, by rw [z1]; exact HB.out.size, fun i hi => (z5 i (fun hm => by have := (e3 i hm).1; omega)).trans (HB.out.block i hi)⟩
end Go.Proofs
