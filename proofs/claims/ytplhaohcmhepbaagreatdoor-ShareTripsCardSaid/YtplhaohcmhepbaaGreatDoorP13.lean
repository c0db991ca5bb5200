/-
  What lies in memory where seasons, lists and numbers come in is said of every world.
-/
import Derived.Test.YtplhaohcmhepbaaGreatDoorP1
import Derived.ProofKit
import Derived.Deep.Slices
import Derived.Test.YtplhaohcmhepbaaGreatDoorP2
import Derived.Test.YtplhaohcmhepbaaGreatDoorP7
import Derived.ChangeShapes
import Derived.WideShapes
import Derived.OpenShut
namespace Go.Proofs
open Go.RowKit Go.ChangeShapes Go.WideShapes Go.Deep

/-- What a type's cells always are. -/
def Shaped (P : Program) (t : TypeId) (R : World → List Value → Prop) : Prop :=
  ∀ (H : Type) (enc : TypeId × Value → H) (w : World) (base : Nat) (spare : Nat → Bool) (held : Bool) (fuel : Nat) (cs : List Value) (x : DataW H × List MemPlace), DataW.trod enc P w base spare held fuel t cs = some x → R w cs
section
variable {P : Program} {t e : TypeId}
theorem shaped_int (ht : P.underlying t = some (.int .i64)) : Shaped P t fun _ cs => ∃ n : Int, cs = inC n ∧ (Lit.int .i64 n).wf = true := by
  intro H enc w base spare held fuel cs x h
  obtain ⟨n, rfl, _, hw⟩ := DataW.trod_int ht h
  exact ⟨n, rfl, hw⟩
theorem shaped_weaken {R S : World → List Value → Prop} (h : Shaped P t R) (hi : ∀ w cs, R w cs → S w cs) : Shaped P t S := fun H enc w base spare held fuel cs x hx => hi w cs (h H enc w base spare held fuel cs x hx)
theorem shaped_one {f0 : Field} {R0 : World → List Value → Prop} (ht : P.underlying t = some (.struct #[f0])) (o0 : f0.offset = 0) (hc : P.cellsOf t = P.cellsOf f0.type) (h0 : Shaped P f0.type R0) : Shaped P t R0 := by
  intro H enc w base spare held fuel cs x h
  obtain ⟨xs, n, _, _, hl, hxl, hf⟩ := DataW.trod_struct ht h
  have g0 := hf 0 f0 rfl
  rw [o0, List.drop_zero, List.take_of_length_le (by omega)] at g0
  have hx : xs.length = 1 := by simpa using hxl
  rw [List.getElem?_eq_getElem (by omega)] at g0
  exact h0 H enc w base spare held n cs _ g0
theorem shaped_pair {f0 f1 : Field} {R0 R1 : World → List Value → Prop} (ht : P.underlying t = some (.struct #[f0, f1])) (o0 : f0.offset = 0) (o1 : f1.offset = P.cellsOf f0.type) (hc : P.cellsOf t = P.cellsOf f0.type + P.cellsOf f1.type)
    (h0 : Shaped P f0.type R0) (h1 : Shaped P f1.type R1) : Shaped P t fun w cs => ∃ a b, cs = a ++ b ∧ R0 w a ∧ R1 w b := by
  intro H enc w base spare held fuel cs x h
  obtain ⟨xs, n, _, _, hl, hxl, hf⟩ := DataW.trod_struct ht h
  have g0 := hf 0 f0 rfl
  have g1 := hf 1 f1 rfl
  have hx : xs.length = 2 := by simpa using hxl
  rw [List.getElem?_eq_getElem (by omega)] at g0 g1
  refine ⟨cs.take (P.cellsOf f0.type), (cs.drop (P.cellsOf f0.type)).take (P.cellsOf f1.type), ?_, ?_, ?_⟩
  · rw [List.take_of_length_le (l := cs.drop _) (by simp; omega), List.take_append_drop]
  · rw [o0, List.drop_zero] at g0
    exact h0 H enc w base spare held n _ _ g0
  · rw [o1] at g1
    exact h1 H enc w base spare held n _ _ g1
theorem shaped_three {f0 f1 f2 : Field} {R0 R1 R2 : World → List Value → Prop} (ht : P.underlying t = some (.struct #[f0, f1, f2])) (o0 : f0.offset = 0) (o1 : f1.offset = P.cellsOf f0.type) (o2 : f2.offset = P.cellsOf f0.type + P.cellsOf f1.type)
    (hc : P.cellsOf t = P.cellsOf f0.type + P.cellsOf f1.type + P.cellsOf f2.type)
    (h0 : Shaped P f0.type R0) (h1 : Shaped P f1.type R1) (h2 : Shaped P f2.type R2) : Shaped P t fun w cs => ∃ a b c, cs = a ++ (b ++ c) ∧ R0 w a ∧ R1 w b ∧ R2 w c := by
  intro H enc w base spare held fuel cs x h
  obtain ⟨xs, n, _, _, hl, hxl, hf⟩ := DataW.trod_struct ht h
  have g0 := hf 0 f0 rfl
  have g1 := hf 1 f1 rfl
  have g2 := hf 2 f2 rfl
  have hx : xs.length = 3 := by simpa using hxl
  rw [List.getElem?_eq_getElem (by omega)] at g0 g1 g2
  refine ⟨cs.take (P.cellsOf f0.type), (cs.drop (P.cellsOf f0.type)).take (P.cellsOf f1.type), (cs.drop (P.cellsOf f0.type + P.cellsOf f1.type)).take (P.cellsOf f2.type), ?_, ?_, ?_, ?_⟩
  · rw [List.take_of_length_le (l := cs.drop (P.cellsOf f0.type + P.cellsOf f1.type)) (by simp; omega), ← List.drop_drop, List.take_append_drop, List.take_append_drop]
  · rw [o0, List.drop_zero] at g0
    exact h0 H enc w base spare held n _ _ g0
  · rw [o1] at g1
    exact h1 H enc w base spare held n _ _ g1
  · rw [o2] at g2
    exact h2 H enc w base spare held n _ _ g2
theorem shaped_slice {α : Type} [Inhabited α] {f : α → List Value} {ok : α → Prop} {sz : Nat} (ht : P.underlying t = some (.slice e)) (hc : P.cellsOf e = sz) (hz : 0 < sz) (hf : ∀ y, (f y).length = sz)
    (he : Shaped P e fun _ cs => ∃ y : α, cs = f y ∧ ok y) : Shaped P t fun w cs => ∃ A n c xs, cs = [.slice A n c] ∧ SlOf f sz w A n xs ∧ n ≤ c ∧ c ≤ maxLen ∧ (A = none → c = 0) ∧ ∀ y ∈ xs, ok y := by
  intro H enc w base spare held fuel cs x h
  rcases open_slice ht h with ⟨rfl, _⟩ | ⟨a, len, cap, m, n, D, Pl, rfl, hb, hl, hm, hmm, rfl, hx⟩
  · exact ⟨none, 0, 0, [], rfl, ⟨rfl, by simp [flat], fun h => absurd h (by omega)⟩, by omega, by omega, fun _ => rfl, fun y hy => by simp at hy⟩
  · have hlm : len ≤ m := by rw [hmm]; split <;> omega
    rw [hc] at hx
    obtain ⟨Y, hY⟩ := choose_lt (α := α) (p := fun i y => w.cells? base (a.add (i * sz)) sz = some (f y) ∧ ok y) (n := len) (fun i hi => by
      obtain ⟨cs', h1, h2⟩ := hx i (by omega)
      obtain ⟨y, rfl, hy⟩ := he H enc w base spare held n _ _ h2
      exact ⟨y, h1, hy⟩)
    have hxl : ((List.range len).map Y).length = len := by simp
    refine ⟨some a, len, cap, (List.range len).map Y, rfl, ⟨hxl, ⟨by rw [flat_len hf, hxl], fun h0 => ?_⟩⟩, hl, hm, fun h => (by cases h), fun y hy => ?_⟩
    · obtain ⟨b, off, spot⟩ := a
      have hs : spot = none := by
        have h1 := (World.cells?_some (hY 0 h0).1).2.2 0 hz
        have h2 : (f (Y 0))[0]? = some ((f (Y 0))[0]'(by rw [hf]; exact hz)) := List.getElem?_eq_getElem _
        rw [h2] at h1
        simpa [Addr.add] using World.cell?_spot h1
      subst hs
      refine ⟨b, off, rfl, fun j u hu => ?_⟩
      have hj : j < len * sz := by
        have := (List.getElem?_eq_some_iff.1 hu).1
        rwa [flat_len hf, hxl] at this
      have hk : j / sz < len := by rw [Nat.div_lt_iff_lt_mul hz]; exact hj
      have hr : j % sz < sz := Nat.mod_lt _ hz
      have hv : (f (Y (j / sz)))[j % sz]? = some ((f (Y (j / sz)))[j % sz]'(by rw [hf]; exact hr)) := List.getElem?_eq_getElem _
      have hfl := flat_at hf ((List.range len).map Y) (j / sz) (Y (j / sz)) (by simp [hk]) (j % sz) _ hv
      have hje : j / sz * sz + j % sz = j := by rw [Nat.mul_comm]; exact Nat.div_add_mod j sz
      rw [hje, hu] at hfl
      have h1 := (World.cells?_some (hY (j / sz) hk).1).2.2 (j % sz) hr
      rw [hv, add_add, hje, add_plain] at h1
      rw [h1, hfl]
    · simp only [List.mem_map, List.mem_range] at hy
      obtain ⟨i, hi, rfl⟩ := hy
      exact (hY i hi).2
variable {H : Type} {enc : TypeId × Value → H} {w : World} {base : Nat} {spare : Nat → Bool} {held : Bool} {R : World → List Value → Prop} {r : Reach} {b0 : Nat} {v : Value} {d : DataW H} {p : List MemPlace}
/-- An argument that is a struct. -/
theorem open_shaped {fs : Array Field} (hS : Shaped P t R) (ht : P.underlying t = some (.struct fs)) (hv : Value.okWide P w r b0 t v) (h : DataW.Trod enc P w base spare held t v d p) : ∃ cs : List Value, v = .agg cs.toArray ∧ R w cs := by
  obtain ⟨cs, rfl, _⟩ := okWide_struct ht hv
  obtain ⟨fuel, hf⟩ := h
  exact ⟨cs.toList, by simp, hS H enc w base spare held fuel _ _ hf⟩
/-- An argument that is a slice. -/
theorem open_shaped_slice (hS : Shaped P t R) (ht : P.underlying t = some (.slice e)) (hv : Value.okWide P w r b0 t v) (h : DataW.Trod enc P w base spare held t v d p) : R w [v] := by
  obtain ⟨a0, len, cap, rfl⟩ := okWide_slice ht hv
  obtain ⟨fuel, hf⟩ := h
  exact hS H enc w base spare held fuel _ _ hf
end
end Go.Proofs
namespace Go.Proofs
open Go.RowKit Go.Shelf Go.ChangeShapes Go.WideShapes Go.Deep

def wfI (n : Int) : Prop := (Lit.int .i64 n).wf = true
def wfPe (x : Pe) : Prop := wfI x.p ∧ wfI x.d ∧ wfI x.f
def wfLa (x : La) : Prop := wfI x.g ∧ wfI x.c ∧ wfI x.w
theorem wfI.bd {n : Int} (h : wfI n) : -9223372036854775808 ≤ n ∧ n ≤ 9223372036854775807 := bounds_i64 h
instance : Inhabited Pe := ⟨⟨0, 0, 0⟩⟩
instance : Inhabited La := ⟨⟨0, 0, 0⟩⟩

theorem sh_int : Shaped Tryz.prog 3 fun _ cs => ∃ n : Int, cs = inC n ∧ wfI n := shaped_int Tryz.underlying3
theorem sh_fate : Shaped Tryz.prog 47 fun _ cs => ∃ n : Int, cs = inC n ∧ wfI n := shaped_int Tryz.underlying47
theorem sh_person : Shaped Tryz.prog 49 fun _ cs => ∃ s : Pe, cs = s.cs ∧ wfPe s :=
  shaped_weaken (shaped_three Tryz.underlying49 rfl (by kernel_rfl) (by kernel_rfl) (by kernel_rfl) sh_int sh_int sh_fate) fun _ _ ⟨_, _, _, e, ⟨n, e1, w1⟩, ⟨q, e2, w2⟩, ⟨m, e3, w3⟩⟩ => ⟨⟨n, q, m⟩, by rw [e, e1, e2, e3]; rfl, w1, w2, w3⟩
theorem sh_landing : Shaped Tryz.prog 44 fun _ cs => ∃ s : La, cs = s.cs ∧ wfLa s :=
  shaped_weaken (shaped_three Tryz.underlying44 rfl (by kernel_rfl) (by kernel_rfl) (by kernel_rfl) sh_int sh_int sh_int) fun _ _ ⟨_, _, _, e, ⟨n, e1, w1⟩, ⟨q, e2, w2⟩, ⟨m, e3, w3⟩⟩ => ⟨⟨n, q, m⟩, by rw [e, e1, e2, e3]; rfl, w1, w2, w3⟩
/-- A slice of things of a fixed number of cells. -/
def IsSl {α : Type} (f : α → List Value) (sz : Nat) (ok : α → Prop) (w : World) (cs : List Value) : Prop := ∃ A n c xs, cs = [.slice A n c] ∧ SlOf f sz w A n xs ∧ n ≤ c ∧ c ≤ maxLen ∧ (A = none → c = 0) ∧ ∀ y ∈ xs, ok y
theorem sh_ints : Shaped Tryz.prog 30 (IsSl inC 1 wfI) := shaped_slice Tryz.underlying30 (by kernel_rfl) (by omega) inC_len sh_int
theorem sh_persons : Shaped Tryz.prog 22 (IsSl Pe.cs 3 wfPe) := shaped_slice Tryz.underlying22 (by kernel_rfl) (by omega) Pe.cs_len sh_person
theorem sh_landings : Shaped Tryz.prog 23 (IsSl La.cs 3 wfLa) := shaped_slice Tryz.underlying23 (by kernel_rfl) (by omega) La.cs_len sh_landing
theorem sh_season : Shaped Tryz.prog 25 fun w cs => ∃ a b, cs = a ++ b ∧ IsSl Pe.cs 3 wfPe w a ∧ IsSl La.cs 3 wfLa w b := shaped_pair Tryz.underlying25 rfl (by kernel_rfl) (by kernel_rfl) sh_persons sh_landings

section
variable {H : Type} {enc : TypeId × Value → H} {w : World} {base : Nat} {spare : Nat → Bool} {held : Bool} {r : Reach} {b0 : Nat} {v : Value} {d : DataW H} {p : List MemPlace}
set_option maxRecDepth 100000 in
theorem arg_int (u : Value.okWide Tryz.prog w r b0 3 v) (h : DataW.Trod enc Tryz.prog w base spare held 3 v d p) : ∃ a, v = .int .i64 a ∧ wfI a := by
  obtain ⟨a, h1, _, _, h2⟩ := open_int Tryz.underlying3 u h
  exact ⟨a, h1, h2⟩
set_option maxRecDepth 100000 in
theorem arg_season (u : Value.okWide Tryz.prog w r b0 25 v) (h : DataW.Trod enc Tryz.prog w base spare held 25 v d p) :
    ∃ s : Sv, v = s.val ∧ s.In w ∧ (∀ y ∈ s.ps, wfPe y) ∧ (∀ y ∈ s.ls, wfLa y) ∧ s.pn ≤ s.pc ∧ s.ln ≤ s.lc ∧ (s.pA = none → s.pc = 0) ∧ (s.lA = none → s.lc = 0) := by
  obtain ⟨cs, rfl, _, _, rfl, ⟨pA, pn, pc, ps, rfl, h1, h2, _, h3, h4⟩, ⟨lA, ln, lc, ls, rfl, g1, g2, _, g3, g4⟩⟩ := open_shaped sh_season Tryz.underlying25 u h
  exact ⟨⟨pA, lA, pn, pc, ln, lc, ps, ls⟩, rfl, ⟨h1, g1⟩, h4, g4, h2, g2, h3, g3⟩
set_option maxRecDepth 100000 in
theorem arg_sl {α : Type} {f : α → List Value} {sz : Nat} {ok : α → Prop} {t e : TypeId} (hS : Shaped Tryz.prog t (IsSl f sz ok)) (ht : Tryz.prog.underlying t = some (.slice e)) (u : Value.okWide Tryz.prog w r b0 t v) (h : DataW.Trod enc Tryz.prog w base spare held t v d p) :
    ∃ A n c xs, v = .slice A n c ∧ SlOf f sz w A n xs ∧ n ≤ c ∧ (∀ y ∈ xs, ok y) ∧ (A = none → c = 0) := by
  obtain ⟨A, n, c, xs, e, h1, h2, _, h4, h5⟩ := open_shaped_slice hS ht u h
  simp only [List.cons.injEq, and_true] at e
  exact ⟨A, n, c, xs, e, h1, h2, h5, h4⟩
set_option maxRecDepth 100000 in
theorem arg_ints (u : Value.okWide Tryz.prog w r b0 30 v) (h : DataW.Trod enc Tryz.prog w base spare held 30 v d p) : ∃ A n c xs, v = .slice A n c ∧ SlOf inC 1 w A n xs ∧ n ≤ c ∧ (∀ y ∈ xs, wfI y) ∧ (A = none → c = 0) := arg_sl sh_ints Tryz.underlying30 u h
set_option maxRecDepth 100000 in
theorem arg_landings (u : Value.okWide Tryz.prog w r b0 23 v) (h : DataW.Trod enc Tryz.prog w base spare held 23 v d p) : ∃ A n c xs, v = .slice A n c ∧ SlOf La.cs 3 w A n xs ∧ n ≤ c ∧ (∀ y ∈ xs, wfLa y) ∧ (A = none → c = 0) := arg_sl sh_landings Tryz.underlying23 u h
set_option maxRecDepth 100000 in
theorem arg_string {W : World} (u : Value.okWide Tryz.prog W r b0 9 v) : ∃ l, v = .string (bs l) := by
  obtain ⟨s, rfl⟩ := okWide_string Tryz.underlying9 u
  exact ⟨s.data.toList, by simp [bs]⟩
end
end Go.Proofs
namespace Go.Proofs
open Go.RowKit Go.Shelf
theorem laid_tail {P : Program} {x : String × DataW Unit} {r : List (String × DataW Unit)} {w : World} (h : laidMet P (x :: r) w) : laidMet P r w := by
  obtain ⟨ps, ⟨g, t, cs, fuel, p, q, h1, h2, h3, h4, h5, rfl⟩, hn, hh⟩ := h
  exact ⟨q, h5, (List.nodup_append.1 hn).2.1, fun b off hm => hh b off (List.mem_append_right _ hm)⟩
theorem tab_of_laid {a b : String × DataW Unit} {rest : List (String × DataW Unit)} {w : World} (h : laidMet Tryz.prog (a :: b :: ("internal/strconv.uint64pow10", Lib.tabData .u64 Lib.pow10Tab) :: rest) w) : Lib.TabIs Tryz.prog w "internal/strconv.uint64pow10" .u64 Lib.pow10Tab := by
  refine Lib.tabIs_of_head (g := 0) (t := 218) (e := 206) (n := 20) (by kernel_rfl) (by kernel_rfl) (by kernel_rfl) (by kernel_rfl) (by kernel_rfl) (by kernel_rfl) (laid_tail (laid_tail h))
end Go.Proofs
