/-
  Contracts of the program's small functions and of the checks of a table, a man and a dive hold at every argument of moderate size.
-/
import Derived.Test.YtahochgbkhpefabGreatDoorProg
import Derived.WalkKit
import Derived.WalkSpells
import Derived.WalkLawsBesides
import Derived.Below
import Derived.Outline
import Derived.Lib.Hide
import Derived.KernelRfl
import Derived.Deep.RegionHeld3
import Derived.Deep.QuietTactic
import Derived.BigQuiet
import Derived.Deep.DrawnRows
import Derived.Laws.Rows
import Derived.Laws.CopyRow
import Derived.Laws.CopyOwn
import Derived.Laws.EntriesVeiled
import Derived.OrdersHeld
import Derived.StillTail
namespace Go.Proofs.Gas

/-- The pressure at a depth. -/
def pres (d : Int) : Int := 1000 + 180 * d
/-- What is held a minute later. -/
def minF (h r d : Int) : Int := h + (pres d - h) * r / 1000
/-- What is held some minutes later. -/
def loadF (h r d : Int) : Nat → Int
  | 0 => h
  | n + 1 => minF (loadF h r d n) r d

theorem quo_floor (p : Int) : (if Int.tmod p 1000 < 0 then Int.tdiv p 1000 - 1 else Int.tdiv p 1000) = p / 1000 := by
  rcases Int.lt_or_le p 0 with h | h
  · obtain ⟨q, rfl⟩ : ∃ q : Int, p = -q := ⟨-p, by omega⟩
    rw [Int.neg_tdiv, Int.neg_tmod, Int.tdiv_eq_ediv_of_nonneg (by omega), Int.tmod_eq_emod_of_nonneg (by omega)]
    split <;> omega
  · rw [Int.tdiv_eq_ediv_of_nonneg h, Int.tmod_eq_emod_of_nonneg h]
    split <;> omega

/-- It lies between what was held and the pressure. -/
theorem minF_up {h r d : Int} (hr : 0 ≤ r ∧ r ≤ 1000) (hp : h ≤ pres d) : h ≤ minF h r d ∧ minF h r d ≤ pres d := by
  have h1 : 0 ≤ (pres d - h) * r := Int.mul_nonneg (by omega) hr.1
  have h2 : (pres d - h) * r ≤ (pres d - h) * 1000 := Int.mul_le_mul_of_nonneg_left hr.2 (by omega)
  unfold minF
  omega
theorem minF_down {h r d : Int} (hr : 0 ≤ r ∧ r ≤ 1000) (hp : pres d ≤ h) : pres d ≤ minF h r d ∧ minF h r d ≤ h := by
  have h1 : (pres d - h) * r ≤ 0 := by
    have := Int.mul_nonneg (show 0 ≤ h - pres d by omega) hr.1
    have e : (pres d - h) * r = -((h - pres d) * r) := by rw [← Int.neg_mul]; congr 1; omega
    omega
  have h2 : (pres d - h) * 1000 ≤ (pres d - h) * r := by
    have := Int.mul_le_mul_of_nonneg_left hr.2 (show 0 ≤ h - pres d by omega)
    have e1 : (pres d - h) * r = -((h - pres d) * r) := by rw [← Int.neg_mul]; congr 1; omega
    have e2 : (pres d - h) * 1000 = -((h - pres d) * 1000) := by rw [← Int.neg_mul]; congr 1; omega
    omega
  unfold minF
  omega
theorem minF_bd {h r d B : Int} (hr : 0 ≤ r ∧ r ≤ 1000) (hd : 0 ≤ d) (h0 : 0 ≤ h) (h1 : h ≤ B) (hB : pres d ≤ B) : 0 ≤ minF h r d ∧ minF h r d ≤ B := by
  have hp : 0 ≤ pres d := by unfold pres; omega
  rcases Int.le_total h (pres d) with a | a
  · have := minF_up hr a; omega
  · have := minF_down hr a; omega
theorem loadF_bd {h r d B : Int} (hr : 0 ≤ r ∧ r ≤ 1000) (hd : 0 ≤ d) (h0 : 0 ≤ h) (h1 : h ≤ B) (hB : pres d ≤ B) : ∀ n, 0 ≤ loadF h r d n ∧ loadF h r d n ≤ B
  | 0 => ⟨h0, h1⟩
  | n + 1 => minF_bd hr hd (loadF_bd hr hd h0 h1 hB n).1 (loadF_bd hr hd h0 h1 hB n).2 hB
theorem pres_bd {d : Int} (h : 0 ≤ d ∧ d ≤ 40) : 1000 ≤ pres d ∧ pres d ≤ 8200 := by unfold pres; omega
theorem mul_bd {p h r : Int} (hp : 0 ≤ p ∧ p ≤ 20000) (hh : 0 ≤ h ∧ h ≤ 20000) (hr : 0 ≤ r ∧ r ≤ 1000) : -20000000 ≤ (p - h) * r ∧ (p - h) * r ≤ 20000000 := by
  have a1 := Int.mul_le_mul_of_nonneg_right (show p - h ≤ 20000 by omega) hr.1
  have a2 := Int.mul_le_mul_of_nonneg_right (show -20000 ≤ p - h by omega) hr.1
  omega
/-- The two ends of what is held after some minutes, and those after some minutes more. -/
def nowF (lo hi r dl dh : Int) (n : Nat) : Int × Int := (loadF lo r dl n, loadF hi r dh n)
def allF (lo hi r dl dh : Int) (n : Nat) : Nat → Int × Int
  | 0 => nowF lo hi r dl dh n
  | k + 1 => (min (allF lo hi r dl dh n k).1 (nowF lo hi r dl dh (n + k + 1)).1, max (allF lo hi r dl dh n k).2 (nowF lo hi r dl dh (n + k + 1)).2)
end Go.Proofs.Gas
namespace Go.Proofs
open Go.RowKit

/-- Block g is just these cells of type t. -/
def Has (w : World) (g : Nat) (t : TypeId) (cs : Array Value) : Prop := w.heap[g]? = some (.cells cs t (0, 0))

section
variable {w w' : World} {g : Nat} {t : TypeId} {cs : Array Value}
theorem Has.lt (h : Has w g t cs) : g < w.heap.size := by
  unfold Has at h
  exact (Array.getElem?_eq_some_iff.1 h).1
theorem Has.cell (h : Has w g t cs) (i : Nat) : w.cell? ⟨g, i, none⟩ = cs[i]? := by
  unfold Has at h
  simp [World.cell?, h]
theorem Has.frozen (h : Has w g t cs) (i : Nat) : w.frozen? ⟨g, i, none⟩ = false := by
  unfold Has at h
  simp [World.frozen?, h]
theorem Has.below {B : Nat} (h : Has w g t cs) (hb : Below B w w') (hg : g < B) : Has w' g t cs := (hb.block g hg).trans h
theorem Has.after (h : Has w g t cs) (hb : Below w.heap.size w w') : Has w' g t cs := h.below hb h.lt
theorem Has.alloc (h : Has w g t cs) (o : Obj) : Has (w.alloc o) g t cs := (Below.heap_alloc w o g h.lt).trans h
theorem Has.new (w : World) (t : TypeId) (cs : Array Value) : Has (w.alloc (.cells cs t)) w.heap.size t cs := by
  exact heap_alloc_new w _
theorem Has.new' (w : World) (t : TypeId) (cs : Array Value) (hg : w.heap.size = g) : Has (w.alloc (.cells cs t)) g t cs := hg ▸ Has.new w t cs
theorem Has.drew (h : Has w g t cs) : Has w.drew g t cs := h
theorem Has.drewN (h : Has w g t cs) (n : Nat) : Has (w.drewN n) g t cs := h
theorem Has.set (h : Has w g t cs) (i : Nat) (u : Value) : Has (w.setCell ⟨g, i, none⟩ u) g t (cs.setIfInBounds i u) := by
  unfold Has at h ⊢
  simp [World.setCell, Array.getElem?_modify, h]
theorem Has.far (h : Has w g t cs) {p : Addr} (hp : g ≠ p.block) (u : Value) : Has (w.setCell p u) g t cs := (Below.heap_setCell w p u g hp).trans h
theorem Has.eq (h : Has w g t cs) {cs' : Array Value} (e : cs = cs') : Has w g t cs' := e ▸ h
end

theorem Has.setRow {w : World} {g : Nat} {t : TypeId} {cs : Array Value} (h : Has w g t cs) (cs' : Array Value) : Has (w.setRow g cs') g t cs' := setRow_heap w g cs cs' t (0, 0) h
theorem Has.setRow_far {w : World} {g k : Nat} {t : TypeId} {cs : Array Value} (h : Has w g t cs) (hk : g ≠ k) (cs' : Array Value) : Has (w.setRow k cs') g t cs := (setRow_other w k g cs' hk).trans h
theorem rowB {w w1 : World} (h : Below w.heap.size w w1) {g : Nat} (hg : w.heap.size ≤ g) (cs : Array Value) : Below w.heap.size w (w1.setRow g cs) := below_setRow h hg cs

section
variable {P : Program}
/-- A whole struct or array is stored over a row. -/
theorem run_storeVar_all (w : World) (g : Nat) (t ty : TypeId) (cs cur : Array Value) (hg : Has w g t cur) (hi : (P.info? ty).map (·.size) = some cs.size) (hl : cs.size = cur.size) (h1 : ∀ v ∈ cs.toList, v.oneCell' = true) :
    (storeVar ty ⟨g, 0, none⟩ (.agg cs)).run P w = .ok () (w.setRow g cs) := by
  have h2 := run_storeCells_at (P := P) g 0 t cs.toList 0 cur w hg (by simp; omega) h1
  have e : (cur.toList.take (0 + 0) ++ cs.toList ++ cur.toList.drop (0 + 0 + cs.toList.length)).toArray = cs := by
    have : cur.toList.drop cs.size = [] := List.drop_eq_nil_of_le (by simp; omega)
    simp [this]
  rw [e] at h2
  cases hq : P.info? ty with
  | none => simp [hq] at hi
  | some i =>
    have hs : i.size = cs.size := by simpa [hq] using hi
    simp [storeVar, Sem.run_bind, sizeOf, typeInfo, hq, hs, Value.cells, h2]

theorem wpList_store_all {ops : Array Oper} {rest : List Oper} {o : Oper} {a : Act} {w : World} {Q : Exit → Act → World → Prop} (hgd : o.guard = none) (ty : TypeId) (x v : Operand) (ho : o.op = .store ty x v)
    (g : Nat) (hx : a.eval x = .pointer (some ⟨g, 0, none⟩)) (cs : Array Value) (hv : a.eval v = .agg cs) (t : TypeId) (cur : Array Value) (hg : Has w g t cur)
    (hi : (P.info? ty).map (·.size) = some cs.size) (hl : cs.size = cur.size) (h1 : ∀ u ∈ cs.toList, u.oneCell' = true)
    (h : wpList P ops Q rest (a.put o.dst undef) (w.setRow g cs)) : wpList P ops Q (o :: rest) a w :=
  wpList_plain hgd fun _ hK => by
    unfold Oper.wp execOp
    simp only [ho, hx, hv, Instr.storeAt, Instr.sureAddr, Sem.run_bind, Sem.run_pure, Result.andThen_ok, run_storeVar_all w g t ty cs cur hg hi hl h1]
    exact hK _ _ h
end

/-- A slice reads as a list of cells. -/
def SlAt (w : World) (A : Option Addr) (n size : Nat) (xs : List Value) : Prop :=
  xs.length = n * size ∧ (0 < n → ∃ b o, A = some ⟨b, o, none⟩ ∧ ∀ (j : Nat) u, xs[j]? = some u → w.cell? ⟨b, o + j, none⟩ = some u)
theorem SlAt.keep {w w' : World} {A : Option Addr} {n size : Nat} {xs : List Value} (h : SlAt w A n size xs) (hb : Below w.heap.size w w') : SlAt w' A n size xs :=
  ⟨h.1, fun hn => by
    obtain ⟨b, o, e, hc⟩ := h.2 hn
    refine ⟨b, o, e, fun j u hu => ?_⟩
    have h1 := hc j u hu
    rw [← h1]
    exact hb.cell (p := ⟨b, o + j, none⟩) (block_lt_of_cell h1)⟩
theorem SlAt.same {w w' : World} {A : Option Addr} {n size : Nat} {xs : List Value} (h : SlAt w A n size xs) (hb : ∀ p : Addr, p.block < w.heap.size → w'.cell? p = w.cell? p) : SlAt w' A n size xs :=
  ⟨h.1, fun hn => by
    obtain ⟨b, o, e, hc⟩ := h.2 hn
    refine ⟨b, o, e, fun j u hu => ?_⟩
    have h1 := hc j u hu
    rw [← h1]
    exact hb _ (block_lt_of_cell h1)⟩

theorem nextB {w w1 w2 : World} (h : Below w.heap.size w w1) (k : Below w1.heap.size w1 w2) : Below w.heap.size w w2 := h.trans (k.mono h.size)
theorem newB {w w1 : World} (h : Below w.heap.size w w1) (o : Obj) : Below w.heap.size w (w1.alloc o) := h.alloc h.size o
theorem setB {w w1 : World} (h : Below w.heap.size w w1) {p : Addr} (hp : w.heap.size ≤ p.block) (u : Value) : Below w.heap.size w (w1.setCell p u) := h.setCell hp u
theorem cell_of_below {w w' : World} (hb : Below w.heap.size w w') : (∀ b o, b < w.heap.size → w'.cell? ⟨b, o, none⟩ = w.cell? ⟨b, o, none⟩) ∧ (∀ b o, b < w.heap.size → w'.frozen? ⟨b, o, none⟩ = w.frozen? ⟨b, o, none⟩) :=
  ⟨fun b o h => hb.cell (p := ⟨b, o, none⟩) h, fun b o h => hb.frozen (p := ⟨b, o, none⟩) h⟩
end Go.Proofs
namespace Go.Proofs
open Go.RowKit
section
variable {P : Program} {ops : Array Oper} {C : World → Prop} {Q : Act → Prop}
/-- In a quiet region: a whole row is loaded. -/
theorem wpQuiet_load_row {o : Oper} {rest : List Oper} {a : Act} (hgd : o.guard = none) (ty : TypeId) (x : Operand) (ho : o.op = .load ty x) (g : Nat) (hx : a.eval x = .pointer (some ⟨g, 0, none⟩))
    (t : TypeId) (cs : Array Value) (d : TypeDesc) (hg : ∀ w, C w → Has w g t cs) (hu : P.underlying ty = some d) (hd : (match d with | .struct _ | .array _ _ => true | _ => false) = true)
    (hi : (P.info? ty).map (·.size) = some cs.size) (h : wpQuiet P ops C Q rest (a.put o.dst (.agg cs))) : wpQuiet P ops C Q (o :: rest) a := by
  unfold wpQuiet
  have hw : Region.wanted o (yielded ops a.tmps) = true := by simp [Region.wanted, hgd]
  rw [if_pos hw]
  refine ⟨.agg cs, fun w hC => ?_, h⟩
  unfold Oper.quietAt execOp
  simp only [ho, hx, Instr.loadAt, Instr.sureAddr, Sem.run_bind, Sem.run_pure, Result.andThen_ok, run_loadVar_row w g t ty cs (0, 0) d (hg w hC) hu hd hi]
  exact ⟨rfl, rfl⟩
/-- In a quiet region: one cell is loaded. -/
theorem wpQuiet_load_cell {o : Oper} {rest : List Oper} {a : Act} (hgd : o.guard = none) (ty : TypeId) (x : Operand) (ho : o.op = .load ty x) (p : Addr) (hx : a.eval x = .pointer (some p))
    (v : Value) (hg : ∀ w, C w → w.cell? p = some v) (d : TypeDesc) (hu : P.underlying ty = some d) (hd : (match d with | .struct _ | .array _ _ => false | _ => true) = true)
    (h : wpQuiet P ops C Q rest (a.put o.dst v)) : wpQuiet P ops C Q (o :: rest) a := by
  unfold wpQuiet
  have hw : Region.wanted o (yielded ops a.tmps) = true := by simp [Region.wanted, hgd]
  rw [if_pos hw]
  refine ⟨v, fun w hC => ?_, h⟩
  have hagg : (isAgg ty).run P w = .ok false w := by
    unfold isAgg
    rw [Sem.run_bind, run_underlying hu w]
    cases d <;> simp_all
  have hl : (loadVar ty p).run P w = .ok v w := by
    simp [loadVar, Sem.run_bind, hagg, load, Sem.run, hg w hC]
  unfold Oper.quietAt execOp
  simp only [ho, hx, Instr.loadAt, Instr.sureAddr, Sem.run_bind, Sem.run_pure, Result.andThen_ok, hl]
  exact ⟨rfl, rfl⟩
/-- In a quiet region: a call whose result hangs on no world of the class. -/
theorem wpQuiet_call {o : Oper} {rest : List Oper} {a : Act} (hgd : o.guard = none) (f : FuncId) (xs : Array Operand) (ts : Array TypeId) (ho : o.op = .call { callee := .value (.func f), args := xs, argTypes := ts })
    (args : Array Value) (hx : xs.map a.eval = args) (v : Value) (hf : ∀ w, (callFunc f args).run P w = .ok (.enter f args) w)
    (hc : ∀ w, C w → Calls P f args w fun e w' => e = .returned v ∧ C w') (h : wpQuiet P ops C Q rest (a.put o.dst v)) : wpQuiet P ops C Q (o :: rest) a := by
  unfold wpQuiet
  have hw : Region.wanted o (yielded ops a.tmps) = true := by simp [Region.wanted, hgd]
  rw [if_pos hw]
  refine ⟨v, fun w hC => ?_, h⟩
  unfold Oper.quietAt execOp
  simp only [ho, resolve, hx, Act.eval, Deferred.ofValue, invoke, Sem.run_bind, Sem.run_pure, Result.andThen_ok, Array.empty_append, Array.append_empty, hf]
  exact ⟨rfl, hc w hC⟩
/-- In a quiet region: an operation that looks at its operands alone. -/
theorem wpQuiet_pure {o : Oper} {rest : List Oper} {a : Act} (hgd : o.guard = none) (v : Value) (hr : ∀ w, (execOp a.eval o).run P w = .ok (.value v) w) (h : wpQuiet P ops C Q rest (a.put o.dst v)) : wpQuiet P ops C Q (o :: rest) a := by
  unfold wpQuiet
  have hw : Region.wanted o (yielded ops a.tmps) = true := by simp [Region.wanted, hgd]
  rw [if_pos hw]
  refine ⟨v, fun w _ => ?_, h⟩
  unfold Oper.quietAt
  rw [hr w]
  exact ⟨rfl, rfl⟩
end

end Go.Proofs
namespace Go.Proofs
section
variable {P : Program} {ops : Array Oper} {Q : Exit → Act → World → Prop} {md : Region.Mode} {S : World → Prop} {n : Nat}

/-- Whatever order is picked, S holding behind each operation but those of the end. -/
def HeldT (P : Program) (md : Region.Mode) (ops : Array Oper) (Q : Exit → Act → World → Prop) (S : World → Prop) (n : Nat) : Nat → Array Bool → Act → World → Prop
  | 0, listed, a, w => Region.ready md ops listed = [] ∧ Q .normal a w
  | f + 1, listed, a, w => (Region.ready md ops listed = [] → Q .normal a w) ∧
    ∀ i ∈ Region.ready md ops listed, wpOp P ops Q i (fun a' w' => (i < n → S w') ∧ HeldT P md ops Q S n f (listed.setIfInBounds i true) a' w') a w

theorem HeldT.any : ∀ (f : Nat) (listed : Array Bool) (a : Act) (w : World), HeldT P md ops Q S n f listed a w → wpAny P md ops Q f listed a w
  | 0, _, _, _, h => h
  | f + 1, _, _, _, h => ⟨h.1, fun i hi => wpOp_mono (fun _ _ h' => HeldT.any f _ _ _ h'.2) (h.2 i hi)⟩

theorem HeldT.early (hs : Region.sinkB md ops n = true) (hc : Region.chainB md ops n = true) (hn : n < ops.size) {i : Nat} {oi : Oper} {v : Value} (hin : i < n) (hi : ops[i]? = some oi)
    (hsel : ∀ (j : Nat) (o : Oper) cs b, ops[j]? = some o → o.op ≠ .select cs b) (hQ : ∀ c a w, Q (.panic c) (a.put oi.dst v) w → Q (.panic c) a w) :
    ∀ (f : Nat) (listed : Array Bool) (a : Act) (w : World), HeadInv md ops n listed →
      (∀ j oj, ops[j]? = some oj → j ≠ i → listed.getD j true = false → (∀ e ∈ oj.after, Region.binds md e = true → e.on ≠ i) → oi.apart ops oj = true) →
      i ∈ Region.ready md ops listed → YieldsIf P ops S oi v a → S w →
      HeldT P md ops Q S n f (listed.setIfInBounds i true) (a.put oi.dst v) w → HeldT P md ops Q S n (f + 1) listed a w := by
  intro f
  induction f with
  | zero =>
    intro listed a w inv _ hr hy hS H
    refine ⟨fun h => absurd hr (by rw [h]; exact List.not_mem_nil), fun j hj => ?_⟩
    rcases Decidable.em (j = i) with rfl | hji
    · exact hy.wpOp hi hS ⟨fun _ => hS, H⟩
    · exact absurd (ready_mono hj hji) (by rw [H.1]; exact List.not_mem_nil)
  | succ f ih =>
    intro listed a w inv hfree hr hy hS H
    have hiu := (mem_ready.1 hr).1
    refine ⟨fun h => absurd hr (by rw [h]; exact List.not_mem_nil), fun j hj => ?_⟩
    rcases Decidable.em (j = i) with rfl | hji
    · exact hy.wpOp hi hS ⟨fun _ => hS, H⟩
    have hjn : j < n := Nat.lt_of_not_le fun h => tail_waits hs hc hn inv _ i rfl hin hiu j h hj
    obtain ⟨hju, oj, hoj, hall⟩ := mem_ready.1 hj
    have hno : ∀ e ∈ oj.after, Region.binds md e = true → e.on ≠ i := fun e he hb he' => by
      have := hall e he hb
      rw [he', getD_both hiu] at this
      exact Bool.noConfusion this
    have h2 := wpOp_putIf hoj (hfree j oj hoj hji hju hno) (fun cs b => hsel i oi cs b hi) (fun cs b => hsel j oj cs b hoj) hQ hy (H.2 j (ready_mono hj hji))
    refine wpOp_mono (fun a' w' h3 => ⟨h3.2.1, ih (listed.setIfInBounds j true) a' w' (inv.set hj hjn) (fun k ok hk hki hku => ?_) (ready_mono hr (Ne.symm hji)) h3.1 (h3.2.1 hjn) ?_⟩) h2
    · refine hfree k ok hk hki ?_
      rcases Decidable.em (j = k) with rfl | hjk
      · exact hju
      · rwa [getD_set_ne true hjk] at hku
    · rw [Array.setIfInBounds_comm _ _ hji]
      exact h3.2.2

/-- The same, the sides as Bools. -/
structure TailB (md : Region.Mode) (ops : Array Oper) (n : Nat) : Prop where
  sel : Region.noSelect ops = true
  sink : Region.sinkB md ops n = true
  chain : Region.chainB md ops n = true
  lt : n < ops.size

def GoT (P : Program) (md : Region.Mode) (ops : Array Oper) (Q : Exit → Act → World → Prop) (S : World → Prop) (n f : Nat) (listed : Array Bool) (a : Act) (w : World) : Prop :=
  HeadInv md ops n listed → HeldT P md ops Q S n f listed a w

theorem GoT.take (B : TailB md ops n) (i : Nat) {oi : Oper} (v : Value) {f : Nat} {listed : Array Bool} {a : Act} {w : World} (hi : ops[i]? = some oi) (hin : i < n)
    (hf : Region.free md ops listed i = true) (hr : (Region.ready md ops listed).contains i = true)
    (hQ : ∀ c a w, Q (.panic c) (a.put oi.dst v) w → Q (.panic c) a w) (hy : YieldsIf P ops S oi v a) (hS : S w)
    (h : GoT P md ops Q S n f (listed.setIfInBounds i true) (a.put oi.dst v) w) : GoT P md ops Q S n (f + 1) listed a w := fun inv => by
  have hr' : i ∈ Region.ready md ops listed := by simpa using hr
  exact HeldT.early B.sink B.chain B.lt hin hi (Region.noSelect_spec B.sel) hQ f listed a w inv (Region.free_spec hi hf) hr' hy hS (h (inv.set hr' hin))

/-- Each operation that may come up. -/
theorem GoT.each {f : Nat} {listed : Array Bool} {a : Act} {w : World} (rs : List Nat) (hr : Region.ready md ops listed = rs) (hne : rs ≠ [])
    (h : ∀ i ∈ rs, i < n ∧ wpOp P ops Q i (fun a' w' => S w' ∧ GoT P md ops Q S n f (listed.setIfInBounds i true) a' w') a w) : GoT P md ops Q S n (f + 1) listed a w := fun inv =>
  ⟨fun h0 => absurd (hr ▸ h0) hne, fun i hi => by
    obtain ⟨h1, h2⟩ := h i (hr ▸ hi)
    exact wpOp_mono (fun _ _ h3 => ⟨fun _ => h3.1, h3.2 (inv.set hi h1)⟩) h2⟩

/-- The last one. -/
theorem GoT.last {f : Nat} {listed : Array Bool} {a : Act} {w : World} (hr : Region.ready md ops listed = [n]) (hz : Region.ready md ops (listed.setIfInBounds n true) = [])
    (h : wpOp P ops Q n (fun a' w' => Q .normal a' w') a w) : GoT P md ops Q S n (f + 1) listed a w := fun _ =>
  ⟨fun h0 => by rw [hr] at h0; simp at h0, fun i hi => by
    rw [hr] at hi
    have : i = n := by simpa using hi
    subst this
    refine wpOp_mono (fun _ _ h3 => ⟨fun h => absurd h (Nat.lt_irrefl _), ?_⟩) h
    cases f with
    | zero => exact ⟨hz, h3⟩
    | succ f => exact ⟨fun _ => h3, by rw [hz]; exact fun _ h => absurd h List.not_mem_nil⟩⟩

theorem GoT.begin {id : Nat} {a : Act} {w : World} (hm : P.follows .mixedOrders = true) (h : GoT P .any ops Q S n ops.size (Array.replicate ops.size false) a w.drew) : (Code.region id ops true).wp P Q a w :=
  wp_region_any hm (HeldT.any _ _ _ _ (h ⟨by simp, fun j oj _ hl => (by rw [getD_replicate_false] at hl; exact Bool.noConfusion hl), fun t _ ht => getD_in (by simpa using ht) (getD_replicate_false _ _)⟩))
end
end Go.Proofs
namespace Go.Proofs
open Go.RowKit
section
variable {P : Program}
/-- A row with some cells written over. -/
def over (cur : Array Value) (i : Nat) (cs : Array Value) : Array Value := (cur.toList.take i ++ cs.toList ++ cur.toList.drop (i + cs.size)).toArray
theorem run_storeVar_part (w : World) (g i : Nat) (t ty : TypeId) (cs cur : Array Value) (hg : Has w g t cur) (hi : (P.info? ty).map (·.size) = some cs.size) (hl : i + cs.size ≤ cur.size) (h1 : ∀ v ∈ cs.toList, v.oneCell' = true) :
    (storeVar ty ⟨g, i, none⟩ (.agg cs)).run P w = .ok () (w.setRow g (over cur i cs)) := by
  have h2 := run_storeCells_at (P := P) g i t cs.toList 0 cur w hg (by simpa using hl) h1
  simp only [Nat.add_zero, Array.length_toList] at h2
  cases hq : P.info? ty with
  | none => simp [hq] at hi
  | some d =>
    have hs : d.size = cs.size := by simpa [hq] using hi
    simp [storeVar, Sem.run_bind, sizeOf, typeInfo, hq, hs, Value.cells, h2, over]
theorem wp_store_part {o : Oper} {a : Act} {w : World} {K : Act → World → Prop} {Q : Exit → Act → World → Prop} (ty : TypeId) (x v : Operand) (ho : o.op = .store ty x v)
    (g i : Nat) (hx : a.eval x = .pointer (some ⟨g, i, none⟩)) (cs : Array Value) (hv : a.eval v = .agg cs) (t : TypeId) (cur : Array Value) (hg : Has w g t cur)
    (hi : (P.info? ty).map (·.size) = some cs.size) (hl : i + cs.size ≤ cur.size) (h1 : ∀ u ∈ cs.toList, u.oneCell' = true)
    (h : K (a.put o.dst undef) (w.setRow g (over cur i cs))) : Oper.wp P o a w K Q := by
  unfold Oper.wp execOp
  simp only [ho, hx, hv, Instr.storeAt, Instr.sureAddr, Sem.run_bind, Sem.run_pure, Result.andThen_ok, run_storeVar_part w g i t ty cs cur hg hi hl h1]
  exact h
theorem wpList_store_part {ops : Array Oper} {rest : List Oper} {o : Oper} {a : Act} {w : World} {Q : Exit → Act → World → Prop} (hgd : o.guard = none) (ty : TypeId) (x v : Operand) (ho : o.op = .store ty x v)
    (g i : Nat) (hx : a.eval x = .pointer (some ⟨g, i, none⟩)) (cs : Array Value) (hv : a.eval v = .agg cs) (t : TypeId) (cur : Array Value) (hg : Has w g t cur)
    (hi : (P.info? ty).map (·.size) = some cs.size) (hl : i + cs.size ≤ cur.size) (h1 : ∀ u ∈ cs.toList, u.oneCell' = true)
    (h : wpList P ops Q rest (a.put o.dst undef) (w.setRow g (over cur i cs))) : wpList P ops Q (o :: rest) a w :=
  wpList_plain hgd fun _ hK => wp_store_part ty x v ho g i hx cs hv t cur hg hi hl h1 (hK _ _ h)
theorem over_two (cur : Array Value) (i : Nat) (u v : Value) (h : i + 2 ≤ cur.size) : over cur i #[u, v] = (cur.setIfInBounds i u).setIfInBounds (i + 1) v := by
  rcases cur with ⟨l⟩
  have hl : i + 2 ≤ l.length := by simpa using h
  apply Array.ext
  · simp [over]; omega
  · intro j h1 h2
    have hj : j < l.length := by simpa using h2
    simp only [over, List.getElem_toArray, List.setIfInBounds_toArray]
    by_cases e1 : j < i
    · rw [List.getElem_append_left (by simp; omega), List.getElem_append_left (by simp; omega)]
      simp [show ¬ i + 1 = j by omega, show ¬ i = j by omega]
    · by_cases e2 : j = i
      · subst e2
        rw [List.getElem_append_left (by simp; omega), List.getElem_append_right (by simp; omega)]
        simp [show min j l.length = j by omega]
      · by_cases e3 : j = i + 1
        · subst e3
          rw [List.getElem_append_left (by simp; omega), List.getElem_append_right (by simp; omega)]
          simp [show min i l.length = i by omega]
        · rw [List.getElem_append_right (by simp; omega)]
          simp [show ¬ i + 1 = j by omega, show ¬ i = j by omega, show min i l.length = i by omega, show i + 2 + (j - (i + 2)) = j by omega]
end
end Go.Proofs
namespace Go.Proofs
open Go.RowKit Gas

def inB (n lo hi : Int) : Bool := decide (lo ≤ n ∧ n ≤ hi)
theorem within_c (n lo hi : Int) (w : World) : Calls Tryz.prog 87 #[.int .i64 n, .int .i64 lo, .int .i64 hi] w fun e w' => e = .returned (.bool (inB n lo hi)) ∧ w = w' := by
  unfold inB
  by_cases h1 : lo ≤ n
  · by_cases h2 : n ≤ hi
    · go_enter Tryz.func87, Tryz.ntmps87
      go_wp2
      go_ret
      simp [h1, h2]
    · go_enter Tryz.func87, Tryz.ntmps87
      go_wp2
      go_ret
      simp [h2]
  · have hd : decide (lo ≤ n) = false := by simpa using h1
    go_enter Tryz.func87, Tryz.ntmps87
    go_wp2
    go_ret
    simp

theorem pressure_c (d : Int) (h : 0 ≤ d ∧ d ≤ 100000) (w : World) : Calls Tryz.prog 143 #[.int .i64 d] w fun e w' => e = .returned (.int .i64 (pres d)) ∧ w = w' := by
  obtain ⟨h0, h1⟩ := h
  go_enter Tryz.func143, Tryz.ntmps143
  go_wp2
  go_ret
  exact ⟨rfl, rfl⟩

theorem ret_i {k : IntKind} {a b : Int} (h : a = b) : Ending.returned (.int k a) = .returned (.int k b) := by rw [h]
theorem tdiv_bd (p : Int) (h : -20000000 ≤ p ∧ p ≤ 20000000) : -20001 ≤ Int.tdiv p 1000 ∧ Int.tdiv p 1000 ≤ 20001 := by
  have := quo_floor p
  split at this <;> omega
theorem minute_c (h r d : Int) (hh : 0 ≤ h ∧ h ≤ 20000) (hr : 0 ≤ r ∧ r ≤ 1000) (hd : 0 ≤ d ∧ d ≤ 100) (w : World) :
    Calls Tryz.prog 136 #[.int .i64 h, .int .i64 r, .int .i64 d] w fun e w' => e = .returned (.int .i64 (minF h r d)) ∧ w = w' := by
  have hp : 1000 ≤ pres d ∧ pres d ≤ 19000 := by unfold pres; omega
  have hm := mul_bd (p := pres d) (by omega) hh hr
  have hq := quo_floor ((pres d - h) * r)
  have ht := tdiv_bd ((pres d - h) * r) hm
  have HQ := Lib.hid hq
  clear hq
  obtain ⟨a0, a1⟩ := hm; obtain ⟨b0, b1⟩ := hh; obtain ⟨c0, c1⟩ := hr; obtain ⟨d0, d1⟩ := hd; obtain ⟨e0, e1⟩ := hp; obtain ⟨f0, f1⟩ := ht
  go_enter Tryz.func136, Tryz.ntmps136
  go_wp2_with (go_at_call 143; refine (pressure_c _ (by omega) _).mono ?_; rintro e w1 ⟨rfl, rfl⟩)
  all_goals
    go_ret
    refine ⟨ret_i ?_, rfl⟩
    have := HQ.out
    unfold minF
    split at this <;> omega
end Go.Proofs
namespace Go.Proofs
open Go.RowKit Gas
attribute [local go_sem ↓] Go.wp_at_zero Go.wp_at_succ

/-- The cells of a list of things of some cells each. -/
def flat {α : Type} (f : α → List Value) : List α → List Value
  | [] => []
  | x :: r => f x ++ flat f r
theorem flat_at {α : Type} {f : α → List Value} {sz : Nat} (hf : ∀ x, (f x).length = sz) : ∀ (xs : List α) (k : Nat) (x : α), xs[k]? = some x → ∀ (j : Nat) (u : Value), (f x)[j]? = some u → (flat f xs)[k * sz + j]? = some u
  | [], _, _, h, _, _, _ => by simp at h
  | y :: r, 0, x, h, j, u, hu => by
    simp at h; subst h
    have hj : j < (f y).length := (List.getElem?_eq_some_iff.1 hu).1
    simp only [flat, Nat.zero_mul, Nat.zero_add]
    rw [List.getElem?_append_left hj]
    exact hu
  | y :: r, k + 1, x, h, j, u, hu => by
    have := flat_at hf r k x (by simpa using h) j u hu
    simp only [flat]
    rw [List.getElem?_append_right (by rw [hf, Nat.add_mul]; omega), hf, ← this]
    congr 1
    rw [Nat.add_mul]; omega
theorem flat_len {α : Type} {f : α → List Value} {sz : Nat} (hf : ∀ x, (f x).length = sz) : ∀ xs : List α, (flat f xs).length = xs.length * sz
  | [] => by simp [flat]
  | x :: r => by simp [flat, hf, flat_len hf r, Nat.add_mul, Nat.add_comm]
/-- A slice of such things. -/
def SlOf {α : Type} (f : α → List Value) (sz : Nat) (w : World) (A : Option Addr) (n : Nat) (xs : List α) : Prop := xs.length = n ∧ SlAt w A n sz (flat f xs)
section
variable {α : Type} {f : α → List Value} {sz : Nat} {w w' : World} {A : Option Addr} {n : Nat} {xs : List α}
theorem SlOf.keep (h : SlOf f sz w A n xs) (hb : Below w.heap.size w w') : SlOf f sz w' A n xs := ⟨h.1, h.2.keep hb⟩
theorem SlOf.addr (h : SlOf f sz w A n xs) (hn : 0 < n) : ∃ b o, A = some ⟨b, o, none⟩ := by
  obtain ⟨b, o, e, _⟩ := h.2.2 hn
  exact ⟨b, o, e⟩
theorem SlOf.range {b o : Nat} (hf : ∀ x, (f x).length = sz) (h : SlOf f sz w (some ⟨b, o, none⟩) n xs) {k : Nat} {x : α} (hx : xs[k]? = some x) : w.rangeAt b (o + k * sz) (f x) := by
  have hk : k < n := by rw [← h.1]; exact (List.getElem?_eq_some_iff.1 hx).1
  obtain ⟨b', o', he, hc⟩ := h.2.2 (by omega)
  cases he
  intro j v hv
  rw [Nat.add_assoc]
  exact hc _ _ (flat_at hf xs k x hx j v hv)
theorem SlOf.lt {b o : Nat} (hf : ∀ x, (f x).length = sz) (hz : 0 < sz) (h : SlOf f sz w (some ⟨b, o, none⟩) n xs) (hn : 0 < n) : b < w.heap.size := by
  have hk : 0 < xs.length := by rw [h.1]; exact hn
  have := h.range hf (List.getElem?_eq_getElem hk)
  have hl : 0 < (f xs[0]).length := by rw [hf]; exact hz
  exact block_lt_of_cell (this 0 _ (List.getElem?_eq_getElem hl))
end
abbrev Pr := Int × Int
def prC (p : Pr) : List Value := [.int .i64 p.1, .int .i64 p.2]
theorem prC_len (p : Pr) : (prC p).length = 2 := rfl
def inC (x : Int) : List Value := [.int .i64 x]
theorem inC_len (x : Int) : (inC x).length = 1 := rfl
/-- A stage: its depth and its minutes. -/
structure St where
  (dl dh ml mh : Int)
def St.cs (s : St) : List Value := [.int .i64 s.dl, .int .i64 s.dh, .int .i64 s.ml, .int .i64 s.mh]
theorem St.cs_len (s : St) : s.cs.length = 4 := rfl

def ordB (l h low high wide : Int) : Bool := decide (low ≤ l ∧ l ≤ h ∧ h ≤ high ∧ h - l ≤ wide)

theorem ordered_c (l h low high wide : Int) (h0 : 0 ≤ low) (h1 : high ≤ 100000) (w : World) :
    Calls Tryz.prog 88 #[.agg #[.int .i64 l, .int .i64 h], .int .i64 low, .int .i64 high, .int .i64 wide] w fun e w' => e = .returned (.bool (ordB l h low high wide)) ∧ Below w.heap.size w w' := by
  by_cases a : inB l low h = true
  · have A := Lib.hid a
    simp only [inB, decide_eq_true_eq] at a
    obtain ⟨a1, a2⟩ := a
    by_cases b : h ≤ high
    · by_cases c : h - l ≤ wide
      · have E := Lib.hid (show ordB l h low high wide = true by simp [ordB]; omega)
        go_enter Tryz.func88, Tryz.ntmps88
        go_wp2_with (go_at_call 87; refine (within_c _ _ _ _).mono ?_; rintro e w1 ⟨rfl, rfl⟩; rw [A.out])
        go_ret
        rw [E.out]
        refine ⟨by first | (simp; done) | (simp; omega), ?_⟩
        repeat' (first | exact Below.refl _ _ | refine newB ?_ _)
      · have E := Lib.hid (show ordB l h low high wide = false by simp [ordB]; omega)
        go_enter Tryz.func88, Tryz.ntmps88
        go_wp2_with (go_at_call 87; refine (within_c _ _ _ _).mono ?_; rintro e w1 ⟨rfl, rfl⟩; rw [A.out])
        go_ret
        rw [E.out]
        refine ⟨by first | (simp; done) | (simp; omega), ?_⟩
        repeat' (first | exact Below.refl _ _ | refine newB ?_ _)
    · have E := Lib.hid (show ordB l h low high wide = false by simp [ordB]; omega)
      have d : decide (h ≤ high) = false := by simpa using b
      go_enter Tryz.func88, Tryz.ntmps88
      go_wp2_with (go_at_call 87; refine (within_c _ _ _ _).mono ?_; rintro e w1 ⟨rfl, rfl⟩; rw [A.out])
      go_ret
      rw [E.out]
      refine ⟨by simp, ?_⟩
      repeat' (first | exact Below.refl _ _ | refine newB ?_ _)
  · have A := Lib.hid (show inB l low h = false by simpa using a)
    have E := Lib.hid (show ordB l h low high wide = false by simp [inB] at a; simp [ordB]; omega)
    clear a
    go_enter Tryz.func88, Tryz.ntmps88
    go_wp2_with (go_at_call 87; refine (within_c _ _ _ _).mono ?_; rintro e w1 ⟨rfl, rfl⟩; rw [A.out])
    go_ret
    rw [E.out]
    refine ⟨by simp, ?_⟩
    repeat' (first | exact Below.refl _ _ | refine newB ?_ _)

theorem deep_c (l h : Int) (w : World) : Calls Tryz.prog 62 #[.agg #[.int .i64 l, .int .i64 h]] w fun e w' => e = .returned (.bool (ordB l h 0 40 6)) ∧ Below w.heap.size w w' := by
  go_enter Tryz.func62, Tryz.ntmps62
  go_wp2_with (go_at_call 88; refine (ordered_c _ _ _ _ _ (by omega) (by omega) _).mono ?_; rintro e w1 ⟨rfl, hb1⟩)
  go_ret
  exact ⟨rfl, nextB (newB (Below.refl _ _) _) hb1⟩
theorem long_c (l h : Int) (w : World) : Calls Tryz.prog 72 #[.agg #[.int .i64 l, .int .i64 h]] w fun e w' => e = .returned (.bool (ordB l h 0 120 6)) ∧ Below w.heap.size w w' := by
  go_enter Tryz.func72, Tryz.ntmps72
  go_wp2_with (go_at_call 88; refine (ordered_c _ _ _ _ _ (by omega) (by omega) _).mono ?_; rintro e w1 ⟨rfl, hb1⟩)
  go_ret
  exact ⟨rfl, nextB (newB (Below.refl _ _) _) hb1⟩
theorem just_c (n : Int) (w : World) : Calls Tryz.prog 98 #[.int .i64 n] w fun e w' => e = .returned (.agg #[.int .i64 n, .int .i64 n]) ∧ Below w.heap.size w w' := by
  go_enter Tryz.func98, Tryz.ntmps98
  go_wp2
  refine bodyPost_ret (v := .agg #[.int .i64 n, .int .i64 n]) (by simp [results, Tryz.results98, go_sem]) rfl ⟨rfl, ?_⟩
  repeat' (first | exact Below.refl _ _ | refine Below.setCell ?_ ?_ _ | refine newB ?_ _)
  all_goals simp

theorem load_c (h r d : Int) (n : Nat) (hh : 0 ≤ h ∧ h ≤ 20000) (hr : 0 ≤ r ∧ r ≤ 1000) (hd : 0 ≤ d ∧ d ≤ 100) (hn : n ≤ 100000) (w : World) :
    Calls Tryz.prog 135 #[.int .i64 h, .int .i64 r, .int .i64 d, .int .i64 n] w fun e w' => e = .returned (.int .i64 (loadF h r d n)) ∧ w = w' := by
  have HB := Lib.hid fun k => loadF_bd (B := 20000) (n := k) hr hd.1 hh.1 hh.2 (by unfold pres; omega)
  have HR := Lib.hid hr
  have HD := Lib.hid hd
  clear hh hr hd
  go_enter Tryz.func135, Tryz.ntmps135
  go_wp2
  go_loop [0, 10] (fun v i => ∃ k : Nat, k ≤ n ∧ i = .int .i64 k ∧ v = .int .i64 (loadF h r d k)) (fun _ i => n - (intOf i).toNat)
  case atStart => exact ⟨0, by omega, rfl, rfl⟩
  case round =>
    obtain ⟨k, hk, rfl, rfl⟩ := hrel
    by_cases hlt : k < n
    · go_wp2_with (go_at_call 136; refine (minute_c _ _ _ (HB.out k) HR.out HD.out _).mono ?_; rintro e w1 ⟨rfl, rfl⟩)
      go_round
      case rel => exact ⟨k + 1, by omega, by go_num, rfl⟩
      case measure => simp [intOf]; omega
    · obtain rfl : k = n := by omega
      go_wp2
      go_ret
      exact ⟨rfl, rfl⟩
end Go.Proofs
namespace Go.Proofs
open Go.RowKit Gas
attribute [local go_sem ↓] Go.wp_at_zero Go.wp_at_succ

def rateB (p : Pr) : Bool := ordB p.1 p.2 1 400 12
def stageB (s : St) : Bool := ordB s.dl s.dh 0 40 6 && ordB s.ml s.mh 0 120 6
def partB (p : Pr) : Bool := inB p.1 0 20000 && inB p.2 0 400

theorem all_take {α : Type} {p : α → Bool} {xs : List α} {n k : Nat} (hn : xs.length = n) (h : ∀ (j : Nat) x, j < k → xs[j]? = some x → p x = true) (hk : n ≤ k) : xs.all p = true := by
  rw [List.all_eq_true]
  intro x hx
  obtain ⟨j, hj, e⟩ := List.getElem_of_mem hx
  exact h j x (by omega) (by rw [← e]; exact List.getElem?_eq_getElem hj)
theorem all_not {α : Type} {p : α → Bool} {xs : List α} {k : Nat} {x : α} (hx : xs[k]? = some x) (h : p x = false) : xs.all p = false := by
  rw [List.all_eq_false]
  exact ⟨x, List.mem_of_getElem? hx, by simp [h]⟩
theorem all_next {α : Type} {p : α → Bool} {xs : List α} {k : Nat} {x : α} (h : ∀ (j : Nat) x, j < k → xs[j]? = some x → p x = true) (hx : xs[k]? = some x) (hp : p x = true) : ∀ (j : Nat) x, j < k + 1 → xs[j]? = some x → p x = true := by
  intro j y hj hy
  rcases Nat.lt_succ_iff_lt_or_eq.1 hj with h' | rfl
  · exact h j y h' hy
  · rw [hx] at hy; cases hy; exact hp

set_option maxHeartbeats 1000000 in
theorem suits_c (pA sA rA : Option Addr) (pn pc sn sc rn rc : Nat) (rs : List Pr) (hrn : rn ≤ 1000000) (w : World) (hs : SlOf prC 2 w rA rn rs) :
    Calls Tryz.prog 95 #[.agg #[.slice pA pn pc, .slice sA sn sc], .agg #[.slice rA rn rc]] w fun e w' =>
      e = .returned (.bool (decide (rn = pn) && rs.all rateB)) ∧ Below w.heap.size w w' := by
  by_cases hnp : rn = pn
  · subst hnp
    have hne : ((rn : Int) != (rn : Int)) = false := by simp
    have HS := Lib.hid hs
    have HN := Lib.hid hs.1
    clear hs
    go_enter Tryz.func95, Tryz.ntmps95
    go_wp2
    go_loopw [17] (fun v wr => ∃ k : Nat, k ≤ rn ∧ v = .int .i64 k ∧ Below w.heap.size w wr ∧ ∀ (j : Nat) x, j < k → rs[j]? = some x → rateB x = true) (fun v _ => rn - (intOf v).toNat)
    case atStart =>
      refine ⟨0, by omega, rfl, ?_, fun j x hj => absurd hj (by omega)⟩
      repeat' (first | exact Below.refl _ _ | refine newB ?_ _)
    case round =>
      obtain ⟨k, hk, rfl, hB, hA⟩ := hrel
      have HB := Lib.hid hB; have HA := Lib.hid hA
      have hz := hB.size
      clear hB hA
      by_cases hkn : k < rn
      · have hkl : k < rs.length := by rw [HN.out]; exact hkn
        obtain ⟨b, o, he⟩ := HS.out.addr (by omega)
        have hx := List.getElem?_eq_getElem hkl
        obtain ⟨x, hxx⟩ : ∃ x, x = rs[k] := ⟨_, rfl⟩
        rw [← hxx] at hx
        subst he
        have hR := Lib.hid ((HS.out.keep HB.out).range prC_len hx)
        have HX := Lib.hid hx
        obtain ⟨x0, x1⟩ := x
        replace hR := Lib.hid (show wr.rangeAt b (o + k * 2) [.int .i64 x0, .int .i64 x1] from hR.out)
        clear hx hxx
        cases ht : ordB x0 x1 1 400 12
        all_goals
          have T := Lib.hid ht
          clear ht
          go_wp2_with (first
            | (refine wpList_load_mid rfl 43 _ rfl b (o + k * 2) rfl _ _ hR.out Tryz.underlying43 rfl (by kernel_rfl) ?_)
            | (go_at_call 88; refine (ordered_c _ _ _ _ _ (by omega) (by omega) _).mono ?_; rintro e w1 ⟨rfl, hb1⟩; rw [T.out]))
        · exact bodyPost_ret (results_tmp rfl _ _ _) rfl ⟨by rw [all_not HX.out (by simpa [rateB] using T.out)]; simp, nextB (newB HB.out _) hb1⟩
        · go_roundw
          case rel => exact ⟨k + 1, by omega, by go_num, nextB (newB HB.out _) hb1, all_next HA.out HX.out T.out⟩
          case measure => simp [intOf]; omega
      · go_wp2
        exact bodyPost_ret (results_tmp rfl _ _ _) rfl ⟨by rw [all_take HN.out HA.out (by omega)]; simp, HB.out⟩
  · have hne : ((rn : Int) != (pn : Int)) = true := by rw [bne_iff_ne]; omega
    have HE := Lib.hid (show (decide (rn = pn) && rs.all rateB) = false by simp [hnp])
    clear hnp hs
    go_enter Tryz.func95, Tryz.ntmps95
    go_wp2
    go_ret
    rw [HE.out]
    refine ⟨rfl, ?_⟩
    repeat' (first | exact Below.refl _ _ | refine newB ?_ _)
end Go.Proofs
namespace Go.Proofs
open Go.RowKit Gas
attribute [local go_sem ↓] Go.wp_at_zero Go.wp_at_succ

def diveB (dive : List St) (room : Int) : Bool := decide ((dive.length : Int) + room ≤ 4) && dive.all stageB

set_option maxHeartbeats 1000000 in
theorem diveable_c (A : Option Addr) (n c : Nat) (dive : List St) (room : Int) (hn : n ≤ 1000000) (hr : 0 ≤ room ∧ room ≤ 1000000) (w : World) (hs : SlOf St.cs 4 w A n dive) :
    Calls Tryz.prog 69 #[.slice A n c, .int .i64 room] w fun e w' => e = .returned (.bool (diveB dive room)) ∧ Below w.heap.size w w' := by
  obtain ⟨r0, r1⟩ := hr
  by_cases hnp : (n : Int) + room ≤ 4
  · have d1 : decide ((n : Int) + room > 4) = false := by simp; omega
    have HS := Lib.hid hs
    have HN := Lib.hid hs.1
    have HE := Lib.hid (show diveB dive room = dive.all stageB by simp only [diveB, hs.1]; simp [hnp])
    clear hs
    go_enter Tryz.func69, Tryz.ntmps69
    go_wp2
    go_loopw [14] (fun v wr => ∃ k : Nat, k ≤ n ∧ v = .int .i64 k ∧ Below w.heap.size w wr ∧ ∀ (j : Nat) x, j < k → dive[j]? = some x → stageB x = true) (fun v _ => n - (intOf v).toNat)
    case atStart =>
      refine ⟨0, by omega, rfl, ?_, fun j x hj => absurd hj (by omega)⟩
      repeat' (first | exact Below.refl _ _ | refine newB ?_ _)
    case round =>
      obtain ⟨k, hk, rfl, hB, hA⟩ := hrel
      have HB := Lib.hid hB; have HA := Lib.hid hA
      have hz := hB.size
      clear hB hA
      by_cases hkn : k < n
      · have hkl : k < dive.length := by rw [HN.out]; exact hkn
        obtain ⟨b, o, he⟩ := HS.out.addr (by omega)
        have hx := List.getElem?_eq_getElem hkl
        obtain ⟨x, hxx⟩ : ∃ x, x = dive[k] := ⟨_, rfl⟩
        rw [← hxx] at hx
        subst he
        have hR := Lib.hid ((HS.out.keep HB.out).range St.cs_len hx)
        have HX := Lib.hid hx
        obtain ⟨x0, x1, x2, x3⟩ := x
        replace hR := Lib.hid (show wr.rangeAt b (o + k * 4) [.int .i64 x0, .int .i64 x1, .int .i64 x2, .int .i64 x3] from hR.out)
        clear hx hxx
        cases ht : ordB x0 x1 0 40 6
        · have T := Lib.hid ht
          clear ht
          go_wp2_with (first
            | (refine wpList_load_mid rfl 80 _ rfl b (o + k * 4) rfl _ _ hR.out Tryz.underlying80 rfl (by kernel_rfl) ?_)
            | (go_at_call 62; refine (deep_c _ _ _).mono ?_; rintro e w1 ⟨rfl, hb1⟩; rw [T.out]))
          exact bodyPost_ret (results_tmp rfl _ _ _) rfl ⟨by rw [HE.out, all_not HX.out (by simp [stageB, T.out])]; rfl, nextB (newB HB.out _) hb1⟩
        · have T := Lib.hid ht
          clear ht
          cases hu : ordB x2 x3 0 120 6
          all_goals
            have U := Lib.hid hu
            clear hu
            go_wp2_with (first
              | (refine wpList_load_mid rfl 80 _ rfl b (o + k * 4) rfl _ _ hR.out Tryz.underlying80 rfl (by kernel_rfl) ?_)
              | (go_at_call 62; refine (deep_c _ _ _).mono ?_; rintro e w1 ⟨rfl, hb1⟩; rw [T.out]; have hD := ((Has.new wr 80 #[.int .i64 x0, .int .i64 x1, .int .i64 x2, .int .i64 x3]).after hb1).cell)
              | (go_at_call 72; refine (long_c _ _ _).mono ?_; rintro e w2 ⟨rfl, hb2⟩; rw [U.out]))
          · exact bodyPost_ret (results_tmp rfl _ _ _) rfl ⟨by rw [HE.out, all_not HX.out (by simp [stageB, U.out])]; rfl, nextB (nextB (newB HB.out _) hb1) hb2⟩
          · go_roundw
            case rel => exact ⟨k + 1, by omega, by go_num, nextB (nextB (newB HB.out _) hb1) hb2, all_next HA.out HX.out (by simp [stageB, T.out, U.out])⟩
            case measure => simp [intOf]; omega
      · go_wp2
        exact bodyPost_ret (results_tmp rfl _ _ _) rfl ⟨by rw [HE.out, all_take HN.out HA.out (by omega)]; rfl, HB.out⟩
  · have d1 : decide ((n : Int) + room > 4) = true := by simp; omega
    have HE := Lib.hid (show diveB dive room = false by simp only [diveB, hs.1]; simp [hnp])
    clear hnp hs
    go_enter Tryz.func69, Tryz.ntmps69
    go_wp2
    go_ret
    rw [HE.out]
    refine ⟨rfl, ?_⟩
    repeat' (first | exact Below.refl _ _ | refine newB ?_ _)
end Go.Proofs
namespace Go.Proofs
open Go.RowKit Gas
attribute [local go_sem ↓] Go.wp_at_zero Go.wp_at_succ

/-- Depths that increase, above some depth. -/
def incB : Int → List Int → Bool
  | _, [] => true
  | a, x :: r => inB x (a + 1) 40 && incB x r
/-- The last of the first k of them. -/
def lastI (a : Int) (xs : List Int) (k : Nat) : Int := match k with | 0 => a | k + 1 => xs.getD k 0
/-- From the k-th one on. -/
theorem incB_drop (a : Int) (xs : List Int) (k : Nat) (h : k < xs.length) : incB (lastI a xs k) (xs.drop k) = (inB xs[k] (lastI a xs k + 1) 40 && incB (lastI a xs (k + 1)) (xs.drop (k + 1))) := by
  rw [List.drop_eq_getElem_cons h]
  simp [incB, lastI, h]
/-- The error of what is, or is not, as defined. -/
def errI (b : Bool) : Int := if b then 0 else 2
def tableB (ps : List Pr) (ss : List Int) : Bool := inB (ps.length : Int) 1 3 && decide (ss.length ≤ 4) && ps.all partB && incB 0 ss
theorem incB_le : ∀ (xs : List Int) (a : Int) (k : Nat), incB a xs = true → k ≤ xs.length → 0 ≤ a ∧ a ≤ 40 → 0 ≤ lastI a xs k ∧ lastI a xs k ≤ 40
  | _, _, 0, _, _, h => h
  | [], _, k + 1, _, h, _ => by simp at h
  | x :: r, a, k + 1, h, hk, ha => by
    simp only [incB, Bool.and_eq_true, inB, decide_eq_true_eq] at h
    have := incB_le r x k h.2 (by simpa using hk) (by omega)
    cases k with
    | zero => simpa [lastI] using (show 0 ≤ x ∧ x ≤ 40 by omega)
    | succ k => simpa [lastI] using this

set_option maxHeartbeats 1000000 in
theorem Check_c (pA sA : Option Addr) (pn pc sn sc : Nat) (ps : List Pr) (ss : List Int) (hpn : pn ≤ 1000000000) (hsn : sn ≤ 1000000000) (w : World) (hp : SlOf prC 2 w pA pn ps) (hs : SlOf inC 1 w sA sn ss) :
    Calls Tryz.prog 94 #[.agg #[.slice pA pn pc, .slice sA sn sc]] w fun e w' =>
      e = .returned (.int .i64 (errI (tableB ps ss))) ∧ Below w.heap.size w w' := by
  have HP := Lib.hid hp; have HS := Lib.hid hs
  have HPN := Lib.hid hp.1; have HSN := Lib.hid hs.1
  cases h1 : inB (pn : Int) 1 3
  · have H1 := Lib.hid h1
    have HE := Lib.hid (show tableB ps ss = false by simp [tableB, hp.1, h1])
    clear hp hs h1
    go_enter Tryz.func94, Tryz.ntmps94
    go_wp2_with (go_at_call 87; refine (within_c _ _ _ _).mono ?_; rintro e w1 ⟨rfl, rfl⟩; rw [H1.out])
    refine bodyPost_ret (results_tmp rfl _ _ _) rfl ⟨by rw [HE.out]; rfl, ?_⟩
    repeat' (first | exact Below.refl _ _ | refine newB ?_ _)
  · have H1 := Lib.hid h1
    by_cases h2 : sn ≤ 4
    · have d2 : decide ((sn : Int) > 4) = false := by simp; omega
      have HE := Lib.hid (show tableB ps ss = (ps.all partB && incB 0 ss) by simp [tableB, hp.1, hs.1, h1, h2])
      have hp3 : pn ≤ 3 := by simp [inB] at h1; omega
      clear hp hs h1
      go_enter Tryz.func94, Tryz.ntmps94
      go_wp2_with (go_at_call 87; refine (within_c _ _ _ _).mono ?_; rintro e w1 ⟨rfl, rfl⟩; rw [H1.out])
      go_loopw [22] (fun v wr => ∃ k : Nat, k ≤ pn ∧ v = .int .i64 k ∧ Below w.heap.size w wr ∧ Has wr w.heap.size 25 #[.slice pA pn pc, .slice sA sn sc] ∧ ∀ (j : Nat) x, j < k → ps[j]? = some x → partB x = true) (fun v _ => pn - (intOf v).toNat)
      case atStart =>
        refine ⟨0, by omega, rfl, ?_, Has.new' _ _ _ rfl, fun j x hj => absurd hj (by omega)⟩
        repeat' (first | exact Below.refl _ _ | refine newB ?_ _)
      case round =>
        obtain ⟨k, hk, rfl, hB, hT, hA⟩ := hrel
        have HB := Lib.hid hB; have HA := Lib.hid hA; have HT := Lib.hid hT
        have hz := hB.size
        have hcell := hT.cell
        clear hB hA hT
        by_cases hkn : k < pn
        · have hkl : k < ps.length := by rw [HPN.out]; exact hkn
          obtain ⟨b, o, he⟩ := HP.out.addr (by omega)
          have hx := List.getElem?_eq_getElem hkl
          obtain ⟨x, hxx⟩ : ∃ x, x = ps[k] := ⟨_, rfl⟩
          rw [← hxx] at hx
          subst he
          have hR := Lib.hid ((HP.out.keep HB.out).range prC_len hx)
          have HX := Lib.hid hx
          obtain ⟨x0, x1⟩ := x
          replace hR := Lib.hid (show wr.rangeAt b (o + k * 2) [.int .i64 x0, .int .i64 x1] from hR.out)
          clear hx hxx
          cases ht : inB x0 0 20000
          · have T := Lib.hid ht
            clear ht
            go_wp2_with (first
              | (refine wpList_load_mid rfl 77 _ rfl b (o + k * 2) rfl _ _ hR.out Tryz.underlying77 rfl (by kernel_rfl) ?_)
              | (go_at_call 87; refine (within_c _ _ _ _).mono ?_; rintro e w1 ⟨rfl, rfl⟩; rw [T.out]))
            exact bodyPost_ret (results_tmp rfl _ _ _) rfl ⟨by rw [HE.out, all_not HX.out (by simp [partB, T.out])]; rfl, newB HB.out _⟩
          · have T := Lib.hid ht
            clear ht
            cases hu : inB x1 0 400
            all_goals
              have U := Lib.hid hu
              clear hu
              go_wp2_with (first
                | (refine wpList_load_mid rfl 77 _ rfl b (o + k * 2) rfl _ _ hR.out Tryz.underlying77 rfl (by kernel_rfl) ?_)
                | (go_at_call 87; refine (within_c _ _ _ _).mono ?_; rintro e w1 ⟨rfl, rfl⟩; first | rw [T.out] | rw [U.out]))
            · exact bodyPost_ret (results_tmp rfl _ _ _) rfl ⟨by rw [HE.out, all_not HX.out (by simp [partB, U.out])]; rfl, newB HB.out _⟩
            · go_roundw
              case rel => exact ⟨k + 1, by omega, by go_num, newB HB.out _, HT.out.alloc _, all_next HA.out HX.out (by simp [partB, T.out, U.out])⟩
              case measure => simp [intOf]; omega
        · have HE2 := Lib.hid (show tableB ps ss = incB 0 ss by rw [HE.out, all_take HPN.out HA.out (by omega)]; rfl)
          obtain ⟨wo, rfl⟩ : ∃ wo : World, wo = wr := ⟨_, rfl⟩
          go_wp2
          go_loopw [5, 40] (fun a v wr => ∃ k : Nat, k ≤ sn ∧ v = .int .i64 k ∧ a = .int .i64 (lastI 0 ss k) ∧ Below w.heap.size w wr ∧ (0 ≤ lastI 0 ss k ∧ lastI 0 ss k ≤ 40) ∧ incB 0 ss = incB (lastI 0 ss k) (ss.drop k)) (fun _ v _ => sn - (intOf v).toNat)
          case atStart => exact ⟨0, by omega, rfl, rfl, HB.out, by simp [lastI], by simp [lastI]⟩
          case round =>
            obtain ⟨m, hm, rfl, rfl, hB2, hl, hA2⟩ := hrel
            have HB2 := Lib.hid hB2; have HA2 := Lib.hid hA2; have HL := Lib.hid hl
            have hz2 := hB2.size
            obtain ⟨l0, l1⟩ := hl
            clear hB2 hA2
            by_cases hmn : m < sn
            · have hml : m < ss.length := by rw [HSN.out]; exact hmn
              obtain ⟨b, o, he⟩ := HS.out.addr (by omega)
              have hx := List.getElem?_eq_getElem hml
              have HD := Lib.hid (incB_drop 0 ss m hml)
              obtain ⟨x, hxx⟩ : ∃ x, x = ss[m] := ⟨_, rfl⟩
              rw [← hxx] at hx HD
              have HX := Lib.hid hxx
              subst he
              have hr := (HS.out.keep HB2.out).range inC_len hx
              have hc : wr.cell? ⟨b, o + m, none⟩ = some (.int .i64 x) := by simpa using hr 0 _ rfl
              clear hx hxx hr
              cases ht : inB x (lastI 0 ss m + 1) 40
              · have T := Lib.hid ht
                clear ht
                go_wp2_with (go_at_call 87; refine (within_c _ _ _ _).mono ?_; rintro e w1 ⟨rfl, rfl⟩; rw [T.out])
                exact bodyPost_ret (results_tmp rfl _ _ _) rfl ⟨by rw [HE2.out, HA2.out, HD.out, T.out]; rfl, HB2.out⟩
              · have T := Lib.hid ht
                simp only [inB, decide_eq_true_eq] at ht
                go_wp2_with (go_at_call 87; refine (within_c _ _ _ _).mono ?_; rintro e w1 ⟨rfl, rfl⟩; rw [T.out])
                have hnx : lastI 0 ss (m + 1) = x := by simp [lastI, HX.out, hml]
                go_roundw
                case rel => exact ⟨m + 1, by omega, by go_num, by rw [hnx], HB2.out, by rw [hnx]; omega, by rw [HA2.out, HD.out, T.out]; rfl⟩
                case measure => simp [intOf]; omega
            · have he : incB 0 ss = true := by rw [HA2.out, List.drop_eq_nil_of_le (by have := HSN.out; omega)]; rfl
              have HE3 := Lib.hid he
              clear he
              go_wp2
              exact bodyPost_ret (results_tmp rfl _ _ _) rfl ⟨by rw [HE2.out, HE3.out]; rfl, HB2.out⟩
    · have d2 : decide ((sn : Int) > 4) = true := by simp; omega
      have HE := Lib.hid (show tableB ps ss = false by simp [tableB, hs.1, h2])
      clear hp hs h1
      go_enter Tryz.func94, Tryz.ntmps94
      go_wp2_with (go_at_call 87; refine (within_c _ _ _ _).mono ?_; rintro e w1 ⟨rfl, rfl⟩; rw [H1.out])
      refine bodyPost_ret (results_tmp rfl _ _ _) rfl ⟨by rw [HE.out]; rfl, ?_⟩
      repeat' (first | exact Below.refl _ _ | refine newB ?_ _)
end Go.Proofs
namespace Go.Proofs
open Go.RowKit Gas
attribute [local go_sem ↓] Go.wp_at_zero Go.wp_at_succ

def manB (ps rs : List Pr) : Bool := decide (rs.length = ps.length) && rs.all rateB
def definedB (ps : List Pr) (ss : List Int) (rs : List Pr) (dive : List St) (room : Int) : Bool := tableB ps ss && manB ps rs && diveB dive room

/-- A table and a man as they lie in memory. -/
structure Tm where
  (pA sA rA : Option Addr) (pn pc sn sc rn rc : Nat) (ps : List Pr) (ss : List Int) (rs : List Pr)
def Tm.tab (t : Tm) : Value := .agg #[.slice t.pA t.pn t.pc, .slice t.sA t.sn t.sc]
def Tm.man (t : Tm) : Value := .agg #[.slice t.rA t.rn t.rc]
structure Tm.In (t : Tm) (w : World) : Prop where
  ps : SlOf prC 2 w t.pA t.pn t.ps
  ss : SlOf inC 1 w t.sA t.sn t.ss
  rs : SlOf prC 2 w t.rA t.rn t.rs
theorem Tm.In.keep {t : Tm} {w w' : World} (h : t.In w) (hb : Below w.heap.size w w') : t.In w' := ⟨h.ps.keep hb, h.ss.keep hb, h.rs.keep hb⟩
structure Tm.Small (t : Tm) : Prop where
  p : t.pn ≤ 1000000
  s : t.sn ≤ 1000000
  r : t.rn ≤ 1000000

set_option maxHeartbeats 1000000 in
theorem defined_c (t : Tm) (ht : t.Small) (A : Option Addr) (n c : Nat) (dive : List St) (room : Int) (hn : n ≤ 1000000) (hr : 0 ≤ room ∧ room ≤ 1000000) (w : World) (hi : t.In w) (hd : SlOf St.cs 4 w A n dive) :
    Calls Tryz.prog 56 #[t.tab, t.man, .slice A n c, .int .i64 room] w fun e w' => e = .returned (.bool (definedB t.ps t.ss t.rs dive room)) ∧ Below w.heap.size w w' := by
  obtain ⟨pA, sA, rA, pn, pc, sn, sc, rn, rc, ps, ss, rs⟩ := t
  obtain ⟨hP, hS, hR⟩ := hi
  obtain ⟨s1, s2, s3⟩ := ht
  simp only [Tm.tab, Tm.man] at *
  have HP := Lib.hid hP; have HS := Lib.hid hS; have HR := Lib.hid hR; have HD := Lib.hid hd; have HM := Lib.hid hr
  have HN := Lib.hid (show manB ps rs = (decide (rn = pn) && rs.all rateB) by simp [manB, hP.1, hR.1])
  have h28 := Lib.hid fun (w1 : World) (h : Below w.heap.size w w1) => Check_c pA sA pn pc sn sc ps ss (by omega) (by omega) w1 (hP.keep h) (hS.keep h)
  have h94 := Lib.hid fun (w1 : World) (h : Below w.heap.size w w1) => suits_c pA sA rA pn pc sn sc rn rc rs (by omega) w1 (hR.keep h)
  have h93 := Lib.hid fun (w1 : World) (h : Below w.heap.size w w1) => diveable_c A n c dive room hn hr w1 (hd.keep h)
  clear hP hS hR hd hr
  have B0 : Below w.heap.size w (w.alloc (.cells #[.slice pA pn pc, .slice sA sn sc] 25)) := newB (Below.refl _ _) _
  cases t1 : tableB ps ss
  · have HE := Lib.hid (show definedB ps ss rs dive room = false by simp [definedB, t1])
    have T1 := Lib.hid t1
    clear t1
    go_enter Tryz.func56, Tryz.ntmps56
    go_wp2_with (first
      | (go_at_call 94; refine (h28.out _ (newB (newB (Below.refl _ _) _) _)).mono ?_; rintro e w1 ⟨rfl, hb1⟩; rw [T1.out, show errI false = 2 from rfl]))
    go_ret
    exact ⟨by rw [HE.out]; rfl, nextB (newB (newB (Below.refl _ _) _) _) hb1⟩
  · have T1 := Lib.hid t1
    cases t2 : (decide (rn = pn) && rs.all rateB)
    · have HE := Lib.hid (show definedB ps ss rs dive room = false by rw [definedB, HN.out, t2]; simp)
      have T2 := Lib.hid t2
      clear t1 t2
      go_enter Tryz.func56, Tryz.ntmps56
      go_wp2_with (first
        | (go_at_call 94; refine (h28.out _ (newB (newB (Below.refl _ _) _) _)).mono ?_; rintro e w1 ⟨rfl, hb1⟩; rw [T1.out, show errI true = 0 from rfl]; obtain ⟨hc1, hf1⟩ := cell_of_below hb1; have hC := nextB (newB (newB (Below.refl _ _) _) _) hb1)
        | (go_at_call 95; refine (h94.out _ (by assumption)).mono ?_; rintro e w2 ⟨rfl, hb2⟩; rw [T2.out]))
      go_ret
      exact ⟨by rw [HE.out]; rfl, nextB hC hb2⟩
    · have HE := Lib.hid (show definedB ps ss rs dive room = diveB dive room by rw [definedB, HN.out, t2, t1]; simp)
      have T2 := Lib.hid t2
      clear t1 t2
      go_enter Tryz.func56, Tryz.ntmps56
      go_wp2_with (first
        | (go_at_call 94; refine (h28.out _ (newB (newB (Below.refl _ _) _) _)).mono ?_; rintro e w1 ⟨rfl, hb1⟩; rw [T1.out, show errI true = 0 from rfl]; obtain ⟨hc1, hf1⟩ := cell_of_below hb1; have hC := nextB (newB (newB (Below.refl _ _) _) _) hb1)
        | (go_at_call 95; refine (h94.out _ (by assumption)).mono ?_; rintro e w2 ⟨rfl, hb2⟩; rw [T2.out]; have hD := nextB hC hb2)
        | (go_at_call 69; refine (h93.out _ (by assumption)).mono ?_; rintro e w3 ⟨rfl, hb3⟩))
      go_ret
      exact ⟨by rw [HE.out]; rfl, nextB hD hb3⟩
end Go.Proofs
