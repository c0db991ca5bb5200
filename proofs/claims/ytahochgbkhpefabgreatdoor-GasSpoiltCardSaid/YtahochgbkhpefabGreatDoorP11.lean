/-
  What lies in memory where tables, men, dives, spans and numbers come in is said of every world.
-/
import Derived.Test.YtahochgbkhpefabGreatDoorP1
import Derived.ProofKit
import Derived.Deep.Slices
import Derived.Test.YtahochgbkhpefabGreatDoorP7
import Derived.OpenShut
import Derived.Test.YtahochgbkhpefabGreatDoorP10
namespace Go.Proofs
open Go.RowKit Gas Go.ChangeShapes Go.WideShapes Go.Deep

/-- What a type's cells always are. -/
def Shaped (P : Program) (t : TypeId) (R : World → List Value → Prop) : Prop :=
  ∀ (H : Type) (enc : TypeId × Value → H) (w : World) (base : Nat) (spare : Nat → Bool) (held : Bool) (fuel : Nat) (cs : List Value) (x : DataW H × List MemPlace), DataW.trod enc P w base spare held fuel t cs = some x → R w cs
instance : Inhabited St := ⟨⟨0, 0, 0, 0⟩⟩
section
variable {P : Program} {t e : TypeId}
theorem shaped_int (ht : P.underlying t = some (.int .i64)) : Shaped P t fun _ cs => ∃ n : Int, cs = inC n ∧ (Lit.int .i64 n).wf = true := by
  intro H enc w base spare held fuel cs x h
  obtain ⟨n, rfl, _, hw⟩ := DataW.trod_int ht h
  exact ⟨n, rfl, hw⟩
theorem shaped_weaken {R S : World → List Value → Prop} (h : Shaped P t R) (hi : ∀ w cs, R w cs → S w cs) : Shaped P t S := fun H enc w base spare held fuel cs x hx => hi w cs (h H enc w base spare held fuel cs x hx)
theorem shaped_one {f0 : Field} {R0 : World → List Value → Prop} (ht : P.underlying t = some (.struct #[f0])) (o0 : f0.offset = 0) (hc : P.cellsOf t = P.cellsOf f0.type) (h0 : Shaped P f0.type R0) : Shaped P t R0 := by
  intro H enc w base spare held fuel cs x h
  obtain ⟨xs, n, _, _, hl, hxl, hf⟩ := DataW.trod_struct ht h
  have g0 := hf 0 f0 rfl
  rw [o0, List.drop_zero, List.take_of_length_le (by omega)] at g0
  have hx : xs.length = 1 := by simpa using hxl
  rw [List.getElem?_eq_getElem (by omega)] at g0
  exact h0 H enc w base spare held n cs _ g0
theorem shaped_pair {f0 f1 : Field} {R0 R1 : World → List Value → Prop} (ht : P.underlying t = some (.struct #[f0, f1])) (o0 : f0.offset = 0) (o1 : f1.offset = P.cellsOf f0.type) (hc : P.cellsOf t = P.cellsOf f0.type + P.cellsOf f1.type)
    (h0 : Shaped P f0.type R0) (h1 : Shaped P f1.type R1) : Shaped P t fun w cs => ∃ a b, cs = a ++ b ∧ R0 w a ∧ R1 w b := by
  intro H enc w base spare held fuel cs x h
  obtain ⟨xs, n, _, _, hl, hxl, hf⟩ := DataW.trod_struct ht h
  have g0 := hf 0 f0 rfl
  have g1 := hf 1 f1 rfl
  have hx : xs.length = 2 := by simpa using hxl
  rw [List.getElem?_eq_getElem (by omega)] at g0 g1
  refine ⟨cs.take (P.cellsOf f0.type), (cs.drop (P.cellsOf f0.type)).take (P.cellsOf f1.type), ?_, ?_, ?_⟩
  · rw [List.take_of_length_le (l := cs.drop _) (by simp; omega), List.take_append_drop]
  · rw [o0, List.drop_zero] at g0
    exact h0 H enc w base spare held n _ _ g0
  · rw [o1] at g1
    exact h1 H enc w base spare held n _ _ g1
theorem shaped_three {f0 f1 f2 : Field} {R0 R1 R2 : World → List Value → Prop} (ht : P.underlying t = some (.struct #[f0, f1, f2])) (o0 : f0.offset = 0) (o1 : f1.offset = P.cellsOf f0.type) (o2 : f2.offset = P.cellsOf f0.type + P.cellsOf f1.type)
    (hc : P.cellsOf t = P.cellsOf f0.type + P.cellsOf f1.type + P.cellsOf f2.type)
    (h0 : Shaped P f0.type R0) (h1 : Shaped P f1.type R1) (h2 : Shaped P f2.type R2) : Shaped P t fun w cs => ∃ a b c, cs = a ++ (b ++ c) ∧ R0 w a ∧ R1 w b ∧ R2 w c := by
  intro H enc w base spare held fuel cs x h
  obtain ⟨xs, n, _, _, hl, hxl, hf⟩ := DataW.trod_struct ht h
  have g0 := hf 0 f0 rfl
  have g1 := hf 1 f1 rfl
  have g2 := hf 2 f2 rfl
  have hx : xs.length = 3 := by simpa using hxl
  rw [List.getElem?_eq_getElem (by omega)] at g0 g1 g2
  refine ⟨cs.take (P.cellsOf f0.type), (cs.drop (P.cellsOf f0.type)).take (P.cellsOf f1.type), (cs.drop (P.cellsOf f0.type + P.cellsOf f1.type)).take (P.cellsOf f2.type), ?_, ?_, ?_, ?_⟩
  · rw [List.take_of_length_le (l := cs.drop (P.cellsOf f0.type + P.cellsOf f1.type)) (by simp; omega), ← List.drop_drop, List.take_append_drop, List.take_append_drop]
  · rw [o0, List.drop_zero] at g0
    exact h0 H enc w base spare held n _ _ g0
  · rw [o1] at g1
    exact h1 H enc w base spare held n _ _ g1
  · rw [o2] at g2
    exact h2 H enc w base spare held n _ _ g2
theorem shaped_slice {α : Type} [Inhabited α] {f : α → List Value} {ok : α → Prop} {sz : Nat} (ht : P.underlying t = some (.slice e)) (hc : P.cellsOf e = sz) (hz : 0 < sz) (hf : ∀ y, (f y).length = sz)
    (he : Shaped P e fun _ cs => ∃ y : α, cs = f y ∧ ok y) : Shaped P t fun w cs => ∃ A n c xs, cs = [.slice A n c] ∧ SlOf f sz w A n xs ∧ n ≤ c ∧ c ≤ maxLen ∧ (A = none → c = 0) ∧ ∀ y ∈ xs, ok y := by
  intro H enc w base spare held fuel cs x h
  rcases open_slice ht h with ⟨rfl, _⟩ | ⟨a, len, cap, m, n, D, Pl, rfl, hb, hl, hm, hmm, rfl, hx⟩
  · exact ⟨none, 0, 0, [], rfl, ⟨rfl, by simp [flat], fun h => absurd h (by omega)⟩, by omega, by omega, fun _ => rfl, fun y hy => by simp at hy⟩
  · have hlm : len ≤ m := by rw [hmm]; split <;> omega
    rw [hc] at hx
    obtain ⟨Y, hY⟩ := choose_lt (α := α) (p := fun i y => w.cells? base (a.add (i * sz)) sz = some (f y) ∧ ok y) (n := len) (fun i hi => by
      obtain ⟨cs', h1, h2⟩ := hx i (by omega)
      obtain ⟨y, rfl, hy⟩ := he H enc w base spare held n _ _ h2
      exact ⟨y, h1, hy⟩)
    have hxl : ((List.range len).map Y).length = len := by simp
    refine ⟨some a, len, cap, (List.range len).map Y, rfl, ⟨hxl, ⟨by rw [flat_len hf, hxl], fun h0 => ?_⟩⟩, hl, hm, fun h => (by cases h), fun y hy => ?_⟩
    · obtain ⟨b, off, spot⟩ := a
      have hs : spot = none := by
        have h1 := (World.cells?_some (hY 0 h0).1).2.2 0 hz
        have h2 : (f (Y 0))[0]? = some ((f (Y 0))[0]'(by rw [hf]; exact hz)) := List.getElem?_eq_getElem _
        rw [h2] at h1
        simpa [Addr.add] using World.cell?_spot h1
      subst hs
      refine ⟨b, off, rfl, fun j u hu => ?_⟩
      have hj : j < len * sz := by
        have := (List.getElem?_eq_some_iff.1 hu).1
        rwa [flat_len hf, hxl] at this
      have hk : j / sz < len := by rw [Nat.div_lt_iff_lt_mul hz]; exact hj
      have hr : j % sz < sz := Nat.mod_lt _ hz
      have hv : (f (Y (j / sz)))[j % sz]? = some ((f (Y (j / sz)))[j % sz]'(by rw [hf]; exact hr)) := List.getElem?_eq_getElem _
      have hfl := flat_at hf ((List.range len).map Y) (j / sz) (Y (j / sz)) (by simp [hk]) (j % sz) _ hv
      have hje : j / sz * sz + j % sz = j := by rw [Nat.mul_comm]; exact Nat.div_add_mod j sz
      rw [hje, hu] at hfl
      have h1 := (World.cells?_some (hY (j / sz) hk).1).2.2 (j % sz) hr
      rw [hv, add_add, hje, add_plain] at h1
      rw [h1, hfl]
    · simp only [List.mem_map, List.mem_range] at hy
      obtain ⟨i, hi, rfl⟩ := hy
      exact (hY i hi).2
variable {H : Type} {enc : TypeId × Value → H} {w : World} {base : Nat} {spare : Nat → Bool} {held : Bool} {R : World → List Value → Prop} {r : Reach} {b0 : Nat} {v : Value} {d : DataW H} {p : List MemPlace}
/-- An argument that is a struct. -/
theorem open_shaped {fs : Array Field} (hS : Shaped P t R) (ht : P.underlying t = some (.struct fs)) (hv : Value.okWide P w r b0 t v) (h : DataW.Trod enc P w base spare held t v d p) : ∃ cs : List Value, v = .agg cs.toArray ∧ R w cs := by
  obtain ⟨cs, rfl, _⟩ := okWide_struct ht hv
  obtain ⟨fuel, hf⟩ := h
  exact ⟨cs.toList, by simp, hS H enc w base spare held fuel _ _ hf⟩
/-- An argument that is a slice. -/
theorem open_shaped_slice (hS : Shaped P t R) (ht : P.underlying t = some (.slice e)) (hv : Value.okWide P w r b0 t v) (h : DataW.Trod enc P w base spare held t v d p) : R w [v] := by
  obtain ⟨a0, len, cap, rfl⟩ := okWide_slice ht hv
  obtain ⟨fuel, hf⟩ := h
  exact hS H enc w base spare held fuel _ _ hf
end
end Go.Proofs
namespace Go.Proofs
open Go.RowKit Gas Go.ChangeShapes Go.WideShapes Go.Deep

def wfI (n : Int) : Prop := (Lit.int .i64 n).wf = true
def wfP (p : Pr) : Prop := wfI p.1 ∧ wfI p.2
def wfS (s : St) : Prop := wfI s.dl ∧ wfI s.dh ∧ wfI s.ml ∧ wfI s.mh
def wfO (s : So) : Prop := wfI s.d ∧ wfI s.l ∧ wfI s.h ∧ wfI s.e
theorem wfI.bd {n : Int} (h : wfI n) : -9223372036854775808 ≤ n ∧ n ≤ 9223372036854775807 := bounds_i64 h

theorem sh_int : Shaped Tryz.prog 3 fun _ cs => ∃ n : Int, cs = inC n ∧ wfI n := shaped_int Tryz.underlying3
theorem sh_pr {t : TypeId} {f0 f1 : Field} (ht : Tryz.prog.underlying t = some (.struct #[f0, f1])) (o0 : f0.offset = 0) (o1 : f1.offset = Tryz.prog.cellsOf f0.type) (hc : Tryz.prog.cellsOf t = Tryz.prog.cellsOf f0.type + Tryz.prog.cellsOf f1.type)
    (h0 : f0.type = 3) (h1 : f1.type = 3) : Shaped Tryz.prog t fun _ cs => ∃ p : Pr, cs = prC p ∧ wfP p :=
  shaped_weaken (R := fun _ cs => ∃ a b : List Value, cs = a ++ b ∧ (∃ n : Int, a = inC n ∧ wfI n) ∧ (∃ n : Int, b = inC n ∧ wfI n)) (shaped_pair ht o0 o1 hc (by rw [h0]; exact sh_int) (by rw [h1]; exact sh_int)) fun _ _ ⟨_, _, e, ⟨n, e1, w1⟩, ⟨m, e2, w2⟩⟩ => ⟨(n, m), by rw [e, e1, e2]; rfl, w1, w2⟩
theorem sh_span : Shaped Tryz.prog 43 fun _ cs => ∃ p : Pr, cs = prC p ∧ wfP p := sh_pr Tryz.underlying43 rfl (by kernel_rfl) (by kernel_rfl) rfl rfl
theorem sh_part : Shaped Tryz.prog 77 fun _ cs => ∃ p : Pr, cs = prC p ∧ wfP p := sh_pr Tryz.underlying77 rfl (by kernel_rfl) (by kernel_rfl) rfl rfl
theorem sh_stop : Shaped Tryz.prog 31 fun _ cs => ∃ p : Pr, cs = prC p ∧ wfP p := sh_pr Tryz.underlying31 rfl (by kernel_rfl) (by kernel_rfl) rfl rfl
theorem sh_stage : Shaped Tryz.prog 80 fun _ cs => ∃ s : St, cs = s.cs ∧ wfS s :=
  shaped_weaken (shaped_pair Tryz.underlying80 rfl (by kernel_rfl) (by kernel_rfl) sh_span sh_span) fun _ _ ⟨_, _, e, ⟨p, e1, w1⟩, ⟨q, e2, w2⟩⟩ => ⟨⟨p.1, p.2, q.1, q.2⟩, by rw [e, e1, e2]; rfl, w1.1, w1.2, w2.1, w2.2⟩
theorem sh_sounding : Shaped Tryz.prog 88 fun _ cs => ∃ s : So, cs = s.cs ∧ wfO s :=
  shaped_weaken (shaped_three Tryz.underlying88 rfl (by kernel_rfl) (by kernel_rfl) (by kernel_rfl) sh_int sh_span sh_int) fun _ _ ⟨_, _, _, e, ⟨n, e1, w1⟩, ⟨q, e2, w2⟩, ⟨m, e3, w3⟩⟩ => ⟨⟨n, q.1, q.2, m⟩, by rw [e, e1, e2, e3]; rfl, w1, w2.1, w2.2, w3⟩
instance : Inhabited So := ⟨⟨0, 0, 0, 0⟩⟩
/-- A slice of things of a fixed number of cells. -/
def IsSl {α : Type} (f : α → List Value) (sz : Nat) (ok : α → Prop) (w : World) (cs : List Value) : Prop := ∃ A n c xs, cs = [.slice A n c] ∧ SlOf f sz w A n xs ∧ n ≤ c ∧ c ≤ maxLen ∧ (A = none → c = 0) ∧ ∀ y ∈ xs, ok y
theorem sh_ints : Shaped Tryz.prog 23 (IsSl inC 1 wfI) := shaped_slice Tryz.underlying23 (by kernel_rfl) (by omega) inC_len sh_int
theorem sh_parts : Shaped Tryz.prog 22 (IsSl prC 2 wfP) := shaped_slice Tryz.underlying22 (by kernel_rfl) (by omega) prC_len sh_part
theorem sh_spans : Shaped Tryz.prog 26 (IsSl prC 2 wfP) := shaped_slice Tryz.underlying26 (by kernel_rfl) (by omega) prC_len sh_span
theorem sh_dive : Shaped Tryz.prog 29 (IsSl St.cs 4 wfS) := shaped_slice Tryz.underlying29 (by kernel_rfl) (by omega) St.cs_len sh_stage
theorem sh_soundings : Shaped Tryz.prog 89 (IsSl So.cs 4 wfO) := shaped_slice Tryz.underlying89 (by kernel_rfl) (by omega) So.cs_len sh_sounding
theorem sh_table : Shaped Tryz.prog 25 fun w cs => ∃ a b, cs = a ++ b ∧ IsSl prC 2 wfP w a ∧ IsSl inC 1 wfI w b := shaped_pair Tryz.underlying25 rfl (by kernel_rfl) (by kernel_rfl) sh_parts sh_ints
theorem sh_man : Shaped Tryz.prog 28 (IsSl prC 2 wfP) := shaped_one Tryz.underlying28 rfl (by kernel_rfl) sh_spans
theorem sh_clock : Shaped Tryz.prog 92 fun _ cs => ∃ a b c : List Value, cs = a ++ (b ++ c) ∧ (∃ n : Int, a = inC n ∧ wfI n) ∧ (∃ p : Pr, b = prC p ∧ wfP p) ∧ (∃ p : Pr, c = prC p ∧ wfP p) :=
  shaped_three Tryz.underlying92 rfl (by kernel_rfl) (by kernel_rfl) (by kernel_rfl) sh_int sh_span sh_span
section
variable {H : Type} {enc : TypeId × Value → H} {w : World} {base : Nat} {spare : Nat → Bool} {held : Bool} {r : Reach} {b0 : Nat} {v : Value} {d : DataW H} {p : List MemPlace}
set_option maxRecDepth 100000 in
theorem arg_int (u : Value.okWide Tryz.prog w r b0 3 v) (h : DataW.Trod enc Tryz.prog w base spare held 3 v d p) : ∃ a, v = .int .i64 a ∧ wfI a := by
  obtain ⟨a, h1, _, _, h2⟩ := open_int Tryz.underlying3 u h
  exact ⟨a, h1, h2⟩
set_option maxRecDepth 100000 in
theorem arg_span (u : Value.okWide Tryz.prog w r b0 43 v) (h : DataW.Trod enc Tryz.prog w base spare held 43 v d p) : ∃ a b, v = .agg #[.int .i64 a, .int .i64 b] ∧ wfI a ∧ wfI b := by
  obtain ⟨cs, rfl, q, rfl, h1, h2⟩ := open_shaped sh_span Tryz.underlying43 u h
  exact ⟨q.1, q.2, rfl, h1, h2⟩
set_option maxRecDepth 100000 in
theorem arg_stop (u : Value.okWide Tryz.prog w r b0 31 v) (h : DataW.Trod enc Tryz.prog w base spare held 31 v d p) : ∃ a b, v = .agg #[.int .i64 a, .int .i64 b] ∧ wfI a ∧ wfI b := by
  obtain ⟨cs, rfl, q, rfl, h1, h2⟩ := open_shaped sh_stop Tryz.underlying31 u h
  exact ⟨q.1, q.2, rfl, h1, h2⟩
set_option maxRecDepth 100000 in
theorem arg_clock (u : Value.okWide Tryz.prog w r b0 92 v) (h : DataW.Trod enc Tryz.prog w base spare held 92 v d p) : ∃ t gl gh wl wh, v = .agg #[.int .i64 t, .int .i64 gl, .int .i64 gh, .int .i64 wl, .int .i64 wh] ∧ (wfI t ∧ wfI gl ∧ wfI gh ∧ wfI wl ∧ wfI wh) := by
  obtain ⟨cs, rfl, _, _, _, rfl, ⟨t, rfl, h1⟩, ⟨g, rfl, h2⟩, ⟨q, rfl, h3⟩⟩ := open_shaped sh_clock Tryz.underlying92 u h
  exact ⟨t, g.1, g.2, q.1, q.2, rfl, h1, h2.1, h2.2, h3.1, h3.2⟩
set_option maxRecDepth 100000 in
theorem arg_table (u : Value.okWide Tryz.prog w r b0 25 v) (h : DataW.Trod enc Tryz.prog w base spare held 25 v d p) :
    ∃ pA pn pc ps sA sn sc ss, v = .agg #[.slice pA pn pc, .slice sA sn sc] ∧ SlOf prC 2 w pA pn ps ∧ SlOf inC 1 w sA sn ss := by
  obtain ⟨cs, rfl, _, _, rfl, ⟨pA, pn, pc, ps, rfl, h1, _⟩, ⟨sA, sn, sc, ss, rfl, h2, _⟩⟩ := open_shaped sh_table Tryz.underlying25 u h
  exact ⟨pA, pn, pc, ps, sA, sn, sc, ss, rfl, h1, h2⟩
set_option maxRecDepth 100000 in
theorem arg_man (u : Value.okWide Tryz.prog w r b0 28 v) (h : DataW.Trod enc Tryz.prog w base spare held 28 v d p) : ∃ rA rn rc rs, v = .agg #[.slice rA rn rc] ∧ SlOf prC 2 w rA rn rs := by
  obtain ⟨cs, rfl, rA, rn, rc, rs, rfl, h1, _⟩ := open_shaped sh_man Tryz.underlying28 u h
  exact ⟨rA, rn, rc, rs, rfl, h1⟩
set_option maxRecDepth 100000 in
theorem arg_sl {α : Type} {f : α → List Value} {sz : Nat} {ok : α → Prop} {t e : TypeId} (hS : Shaped Tryz.prog t (IsSl f sz ok)) (ht : Tryz.prog.underlying t = some (.slice e)) (u : Value.okWide Tryz.prog w r b0 t v) (h : DataW.Trod enc Tryz.prog w base spare held t v d p) :
    ∃ A n c xs, v = .slice A n c ∧ SlOf f sz w A n xs ∧ n ≤ c ∧ (∀ y ∈ xs, ok y) ∧ (A = none → c = 0) := by
  obtain ⟨A, n, c, xs, e, h1, h2, _, h4, h5⟩ := open_shaped_slice hS ht u h
  simp only [List.cons.injEq, and_true] at e
  exact ⟨A, n, c, xs, e, h1, h2, h5, h4⟩
set_option maxRecDepth 100000 in
theorem arg_dive (u : Value.okWide Tryz.prog w r b0 29 v) (h : DataW.Trod enc Tryz.prog w base spare held 29 v d p) : ∃ A n c xs, v = .slice A n c ∧ SlOf St.cs 4 w A n xs ∧ n ≤ c ∧ (∀ y ∈ xs, wfS y) ∧ (A = none → c = 0) := arg_sl sh_dive Tryz.underlying29 u h
set_option maxRecDepth 100000 in
theorem arg_ints (u : Value.okWide Tryz.prog w r b0 23 v) (h : DataW.Trod enc Tryz.prog w base spare held 23 v d p) : ∃ A n c xs, v = .slice A n c ∧ SlOf inC 1 w A n xs ∧ n ≤ c ∧ (∀ y ∈ xs, wfI y) ∧ (A = none → c = 0) := arg_sl sh_ints Tryz.underlying23 u h
set_option maxRecDepth 100000 in
theorem arg_soundings (u : Value.okWide Tryz.prog w r b0 89 v) (h : DataW.Trod enc Tryz.prog w base spare held 89 v d p) : ∃ A n c xs, v = .slice A n c ∧ SlOf So.cs 4 w A n xs ∧ n ≤ c ∧ (∀ y ∈ xs, wfO y) ∧ (A = none → c = 0) := arg_sl sh_soundings Tryz.underlying89 u h
end
end Go.Proofs
namespace Go.Proofs.Gas
theorem loadF_add (h r d : Int) (m : Nat) : ∀ n, loadF h r d (m + n) = loadF (loadF h r d m) r d n
  | 0 => rfl
  | n + 1 => by
    show minF (loadF h r d (m + n)) r d = minF (loadF (loadF h r d m) r d n) r d
    rw [loadF_add h r d m n]
theorem loadF_up {h r d : Int} (hr : 0 ≤ r ∧ r ≤ 1000) (hp : h ≤ pres d) : ∀ n, h ≤ loadF h r d n ∧ loadF h r d n ≤ pres d
  | 0 => ⟨Int.le_refl _, hp⟩
  | n + 1 => by
    have a := loadF_up hr hp n
    have b := minF_up hr a.2
    show h ≤ minF (loadF h r d n) r d ∧ minF (loadF h r d n) r d ≤ pres d
    omega
theorem loadF_down {h r d : Int} (hr : 0 ≤ r ∧ r ≤ 1000) (hp : pres d ≤ h) : ∀ n, pres d ≤ loadF h r d n ∧ loadF h r d n ≤ h
  | 0 => ⟨hp, Int.le_refl _⟩
  | n + 1 => by
    have a := loadF_down hr hp n
    have b := minF_down hr a.1
    show pres d ≤ minF (loadF h r d n) r d ∧ minF (loadF h r d n) r d ≤ h
    omega
theorem loadF_btw {h r d : Int} (hr : 0 ≤ r ∧ r ≤ 1000) (n : Nat) : min h (pres d) ≤ loadF h r d n ∧ loadF h r d n ≤ max h (pres d) := by
  rcases Int.le_total h (pres d) with a | a
  · have := loadF_up hr a n; omega
  · have := loadF_down hr a n; omega
/-- Who holds more, or is deeper, holds no less a minute later. -/
theorem minF_mono {h h' r d d' : Int} (hr : 0 ≤ r ∧ r ≤ 1000) (hh : h ≤ h') (hd : d ≤ d') : minF h r d ≤ minF h' r d' := by
  have e : ∀ h d : Int, minF h r d = (h * (1000 - r) + pres d * r) / 1000 := by
    intro h d
    unfold minF
    rw [show h * (1000 - r) + pres d * r = (pres d - h) * r + h * 1000 by rw [Int.mul_sub, Int.sub_mul]; omega, Int.add_mul_ediv_right _ _ (by omega)]
    omega
  rw [e, e]
  have a := Int.mul_le_mul_of_nonneg_right hh (show 0 ≤ 1000 - r by omega)
  have b := Int.mul_le_mul_of_nonneg_right (show pres d ≤ pres d' by unfold pres; omega) hr.1
  omega
theorem loadF_mono {h h' r d d' : Int} (hr : 0 ≤ r ∧ r ≤ 1000) (hh : h ≤ h') (hd : d ≤ d') : ∀ n, loadF h r d n ≤ loadF h' r d' n
  | 0 => hh
  | n + 1 => minF_mono hr (loadF_mono hr hh hd n) hd
end Go.Proofs.Gas
