/-
  The law's own self-test returns true in every world.
-/
import Derived.Test.YtahochgbkhpefabGreatDoorP8
namespace Go.Proofs
open Go.RowKit Go.Shelf Gas
def tmT (g1 g2 g3 : Nat) : Tm := ⟨some ⟨g1, 0, none⟩, some ⟨g2, 0, none⟩, some ⟨g3, 0, none⟩, 2, 2, 2, 2, 2, 2, [(1600, 200), (1300, 150)], [2, 4], [(100, 100), (20, 25)]⟩
def diveWW : List St := [⟨9, 10, 3, 4⟩]
theorem known_ev (g1 g2 g3 : Nat) : (knownF (tmT g1 g2 g3) diveWW)[1]? = some [(1438, 1618), (1094, 1171)] ∧ (knownF (tmT g1 g2 g3) diveWW).length = 2 := by constructor <;> kernel_rfl
theorem worst_ev (g1 g2 g3 : Nat) : worstF (tmT g1 g2 g3) diveWW = (1, 0, 0) := by kernel_rfl
theorem limit_ev (g1 g2 g3 : Nat) : limitF (tmT g1 g2 g3) 10 10 = (3, 0) := by kernel_rfl
theorem stop_ev (g1 g2 g3 : Nat) : stopF (tmT g1 g2 g3) diveWW = ((2, 1), 0) := by kernel_rfl
theorem slip_ev : prnF diveWW = ([100, 105, 118, 101, 32, 49, 10, 115, 116, 97, 103, 101, 32, 57, 32, 49, 48, 32, 51, 32, 52, 10, 101, 110, 100, 32, 49, 50, 10], 0) := by kernel_rfl
def diveV : List St := [⟨10, 10, 3, 3⟩]
def diveU : List St := [⟨10, 10, 8, 8⟩]
theorem wait_ev (g1 g2 g3 : Nat) : waitF (tmT g1 g2 g3) diveV diveV = (11, 0) := by kernel_rfl
theorem crew_ev (g1 g2 g3 : Nat) (_ : List Mn) : crewL (tmT g1 g2 g3) diveWW [⟨some ⟨g1, 0, none⟩, 2, 2, [(100, 100), (20, 25)]⟩, ⟨some ⟨g1, 0, none⟩, 2, 2, [(80, 80), (20, 20)]⟩] 2 = [1] := by kernel_rfl
theorem cham_ev (g1 g2 g3 : Nat) : chamF (tmT g1 g2 g3) diveU 4 4 = ((1, 2), 0) := by kernel_rfl
theorem mom_ev (g1 g2 g3 : Nat) : momF (tmT g1 g2 g3) [] 10 10 = (7, (2, 9), 0) := by kernel_rfl
end Go.Proofs
namespace Go.Proofs
open Go.RowKit Go.Shelf Gas
attribute [local go_sem ↓] Go.wp_at_zero Go.wp_at_succ

/-- What stays true while memory only grows. -/
def Stable (p : World → Prop) : Prop := ∀ w w', p w → Below w.heap.size w w' → p w'
structure KB (w0 : World) (p : World → Prop) (w : World) : Prop where
  below : Below w0.heap.size w0 w
  st : Stable p
  now : p w
theorem KB.keep {w0 w w' : World} {p : World → Prop} (h : KB w0 p w) (hb : Below w.heap.size w w') : KB w0 p w' := ⟨nextB h.below hb, h.st, h.st w w' h.now hb⟩
theorem KB.add {w0 w : World} {p : World → Prop} (h : KB w0 p w) (q : World → Prop) (hs : Stable q) (hq : q w) : KB w0 (fun x => p x ∧ q x) w :=
  ⟨h.below, fun a b hab hb => ⟨h.st a b hab.1 hb, hs a b hab.2 hb⟩, h.now, hq⟩
theorem stable_has (g : Nat) (t : TypeId) (cs : Array Value) : Stable fun w => Has w g t cs := fun _ _ h hb => h.after hb
theorem stable_sl {α : Type} (f : α → List Value) (sz : Nat) (A : Option Addr) (n : Nat) (xs : List α) : Stable fun w => SlOf f sz w A n xs := fun _ _ h hb => h.keep hb
theorem stable_cell (p : Addr) (v : Value) : Stable fun w => w.cell? p = some v := fun w w' h hb => by rw [← h]; exact hb.cell (block_lt_of_cell h)
theorem stable_and {p q : World → Prop} (hp : Stable p) (hq : Stable q) : Stable fun w => p w ∧ q w := fun a b h hb => ⟨hp a b h.1 hb, hq a b h.2 hb⟩

theorem depth_k (w : World) (g : Nat) (h : Has w g 88 #[.int .i64 10, .int .i64 0, .int .i64 10, .int .i64 1, .int .i64 9, .int .i64 5, .int .i64 20, .int .i64 0]) :
    Calls Tryz.prog 42 #[.slice (some ⟨g, 0, none⟩) 2 2] w fun e w' => e = .returned (.tuple #[.agg #[.int .i64 9, .int .i64 10], .int .i64 0]) ∧ Below w.heap.size w w' :=
  Depth_c (some ⟨g, 0, none⟩) 2 2 [⟨10, 0, 10, 1⟩, ⟨9, 5, 20, 0⟩] 9 12 [(9, 10)] (by kernel_rfl) (by simp; exact ⟨by kernel_rfl, by kernel_rfl⟩) (by kernel_rfl) (by decide) w (SlOf.of_cells So.cs_len h rfl rfl)
theorem minutes_k (w : World) : Calls Tryz.prog 44 #[.agg #[.int .i64 3, .int .i64 4, .int .i64 5, .int .i64 10, .int .i64 16]] w fun e w' => e = .returned (.tuple #[.agg #[.int .i64 12, .int .i64 16], .int .i64 0]) ∧ Below w.heap.size w w' :=
  Minutes_c 3 4 5 10 16 (by kernel_rfl) (by kernel_rfl) (by kernel_rfl) (by decide) w

theorem inT {w : World} {g1 g2 g3 : Nat} (hp : SlOf prC 2 w (some ⟨g1, 0, none⟩) 2 [(1600, 200), (1300, 150)]) (hs : SlOf inC 1 w (some ⟨g2, 0, none⟩) 2 [2, 4]) (hm : SlOf prC 2 w (some ⟨g3, 0, none⟩) 2 [(100, 100), (20, 25)]) : (tmT g1 g2 g3).In w := ⟨hp, hs, hm⟩
theorem smallT (g1 g2 g3 : Nat) : (tmT g1 g2 g3).Small := ⟨by simp [tmT], by simp [tmT], by simp [tmT]⟩
theorem known_k {w : World} {g1 g2 g3 g4 : Nat} (hp : SlOf prC 2 w (some ⟨g1, 0, none⟩) 2 [(1600, 200), (1300, 150)]) (hs : SlOf inC 1 w (some ⟨g2, 0, none⟩) 2 [2, 4]) (hm : SlOf prC 2 w (some ⟨g3, 0, none⟩) 2 [(100, 100), (20, 25)]) (hd : SlOf St.cs 4 w (some ⟨g4, 0, none⟩) 1 [⟨9, 10, 3, 4⟩]) :
    Calls Tryz.prog 32 #[.agg #[.slice (some ⟨g1, 0, none⟩) 2 2, .slice (some ⟨g2, 0, none⟩) 2 2], .agg #[.slice (some ⟨g3, 0, none⟩) 2 2], .slice (some ⟨g4, 0, none⟩) 1 1] w fun e w' =>
      ∃ g cap D, e = .returned (.tuple #[.slice (some ⟨g, 0, none⟩) 2 cap, .int .i64 0]) ∧ (w'.cell? ⟨g, 1, none⟩ = some (.slice (some ⟨D, 0, none⟩) 2 2) ∧ SlOf prC 2 w' (some ⟨D, 0, none⟩) 2 [(1438, 1618), (1094, 1171)]) ∧ Below w.heap.size w w' := by
  refine (Known_c (tmT g1 g2 g3) (smallT _ _ _) (some ⟨g4, 0, none⟩) 1 1 [⟨9, 10, 3, 4⟩] (by intro h; cases h) (by omega) w (inT hp hs hm) hd).mono ?_
  rintro e w' ⟨v, rfl, hl, hb⟩
  obtain ⟨cells, h1, h2⟩ := hl.ex
  obtain ⟨e1, e2⟩ := known_ev g1 g2 g3
  have e2' : (knownF (tmT g1 g2 g3) [⟨9, 10, 3, 4⟩]).length = 2 := e2
  obtain ⟨D, hc, hr⟩ := h2 1 _ e1
  rw [e2'] at h1
  rcases h1.2 with ⟨_, h⟩ | ⟨g, cap, cur, rfl, _, h3, _, _, _, h7⟩
  · omega
  · refine ⟨g, cap, D, ?_, ⟨?_, hr.sl prC_len⟩, hb⟩
    · have : errI (definedB (tmT g1 g2 g3).ps (tmT g1 g2 g3).ss (tmT g1 g2 g3).rs [⟨9, 10, 3, 4⟩] 0) = 0 := by kernel_rfl
      rw [this]
    · have := (Has.cell (w := w') (g := g) (t := 26) (cs := cur) h3 1)
      rw [this, ← Array.getElem?_toList]
      rw [← h7, List.getElem?_take] at hc
      split at hc
      · exact hc
      · cases hc
theorem worst_k {w : World} {g1 g2 g3 g4 : Nat} (hp : SlOf prC 2 w (some ⟨g1, 0, none⟩) 2 [(1600, 200), (1300, 150)]) (hs : SlOf inC 1 w (some ⟨g2, 0, none⟩) 2 [2, 4]) (hm : SlOf prC 2 w (some ⟨g3, 0, none⟩) 2 [(100, 100), (20, 25)]) (hd : SlOf St.cs 4 w (some ⟨g4, 0, none⟩) 1 [⟨9, 10, 3, 4⟩]) :
    Calls Tryz.prog 48 #[.agg #[.slice (some ⟨g1, 0, none⟩) 2 2, .slice (some ⟨g2, 0, none⟩) 2 2], .agg #[.slice (some ⟨g3, 0, none⟩) 2 2], .slice (some ⟨g4, 0, none⟩) 1 1] w fun e w' => e = .returned (.tuple #[.int .i64 1, .int .i64 0, .int .i64 0]) ∧ Below w.heap.size w w' := by
  have := Worst_c (tmT g1 g2 g3) (smallT _ _ _) (some ⟨g4, 0, none⟩) 1 1 [⟨9, 10, 3, 4⟩] (by intro h; cases h) (by omega) w (inT hp hs hm) hd
  rw [show worstF (tmT g1 g2 g3) [⟨9, 10, 3, 4⟩] = (1, 0, 0) from worst_ev g1 g2 g3] at this
  exact this
theorem limit_k {w : World} {g1 g2 g3 : Nat} (hp : SlOf prC 2 w (some ⟨g1, 0, none⟩) 2 [(1600, 200), (1300, 150)]) (hs : SlOf inC 1 w (some ⟨g2, 0, none⟩) 2 [2, 4]) (hm : SlOf prC 2 w (some ⟨g3, 0, none⟩) 2 [(100, 100), (20, 25)]) :
    Calls Tryz.prog 49 #[.agg #[.slice (some ⟨g1, 0, none⟩) 2 2, .slice (some ⟨g2, 0, none⟩) 2 2], .agg #[.slice (some ⟨g3, 0, none⟩) 2 2], .agg #[.int .i64 10, .int .i64 10]] w fun e w' => e = .returned (.tuple #[.int .i64 3, .int .i64 0]) ∧ Below w.heap.size w w' := by
  have := Limit_c (tmT g1 g2 g3) (smallT _ _ _) 10 10 w (inT hp hs hm)
  rw [limit_ev g1 g2 g3] at this
  exact this
theorem stop_k {w : World} {g1 g2 g3 g4 : Nat} (hp : SlOf prC 2 w (some ⟨g1, 0, none⟩) 2 [(1600, 200), (1300, 150)]) (hs : SlOf inC 1 w (some ⟨g2, 0, none⟩) 2 [2, 4]) (hm : SlOf prC 2 w (some ⟨g3, 0, none⟩) 2 [(100, 100), (20, 25)]) (hd : SlOf St.cs 4 w (some ⟨g4, 0, none⟩) 1 [⟨9, 10, 3, 4⟩]) :
    Calls Tryz.prog 16 #[.agg #[.slice (some ⟨g1, 0, none⟩) 2 2, .slice (some ⟨g2, 0, none⟩) 2 2], .agg #[.slice (some ⟨g3, 0, none⟩) 2 2], .slice (some ⟨g4, 0, none⟩) 1 1] w fun e w' => e = .returned (.tuple #[.agg #[.int .i64 2, .int .i64 1], .int .i64 0]) ∧ Below w.heap.size w w' := by
  have := Stop_c (tmT g1 g2 g3) (smallT _ _ _) (some ⟨g4, 0, none⟩) 1 1 [⟨9, 10, 3, 4⟩] (by omega) w (inT hp hs hm) hd
  rw [show stopF (tmT g1 g2 g3) [⟨9, 10, 3, 4⟩] = ((2, 1), 0) from stop_ev g1 g2 g3] at this
  exact this
theorem moment_k {w : World} {g1 g2 g3 : Nat} (hp : SlOf prC 2 w (some ⟨g1, 0, none⟩) 2 [(1600, 200), (1300, 150)]) (hs : SlOf inC 1 w (some ⟨g2, 0, none⟩) 2 [2, 4]) (hm : SlOf prC 2 w (some ⟨g3, 0, none⟩) 2 [(100, 100), (20, 25)]) :
    Calls Tryz.prog 20 #[.agg #[.slice (some ⟨g1, 0, none⟩) 2 2, .slice (some ⟨g2, 0, none⟩) 2 2], .agg #[.slice (some ⟨g3, 0, none⟩) 2 2], .slice none 0 0, .agg #[.int .i64 10, .int .i64 10]] w fun e w' => e = .returned (.tuple #[.int .i64 7, .agg #[.int .i64 2, .int .i64 9], .int .i64 0]) ∧ Below w.heap.size w w' := by
  have := Moment_c (tmT g1 g2 g3) (smallT _ _ _) none 0 0 [] 10 10 (by omega) w (inT hp hs hm) (SlOf.nil _ _ _)
  rw [mom_ev g1 g2 g3] at this
  exact this
theorem wait_k {w : World} {g1 g2 g3 g4 : Nat} (hp : SlOf prC 2 w (some ⟨g1, 0, none⟩) 2 [(1600, 200), (1300, 150)]) (hs : SlOf inC 1 w (some ⟨g2, 0, none⟩) 2 [2, 4]) (hm : SlOf prC 2 w (some ⟨g3, 0, none⟩) 2 [(100, 100), (20, 25)]) {g5 : Nat} (hd : SlOf St.cs 4 w (some ⟨g4, 0, none⟩) 1 [⟨10, 10, 3, 3⟩]) (hd2 : SlOf St.cs 4 w (some ⟨g5, 0, none⟩) 1 [⟨10, 10, 3, 3⟩]) :
    Calls Tryz.prog 25 #[.agg #[.slice (some ⟨g1, 0, none⟩) 2 2, .slice (some ⟨g2, 0, none⟩) 2 2], .agg #[.slice (some ⟨g3, 0, none⟩) 2 2], .slice (some ⟨g4, 0, none⟩) 1 1, .slice (some ⟨g5, 0, none⟩) 1 1] w fun e w' => e = .returned (.tuple #[.int .i64 11, .int .i64 0]) ∧ Below w.heap.size w w' := by
  have := Wait_c (tmT g1 g2 g3) (smallT _ _ _) (some ⟨g4, 0, none⟩) (some ⟨g5, 0, none⟩) 1 1 1 1 [⟨10, 10, 3, 3⟩] [⟨10, 10, 3, 3⟩] (by omega) (by omega) w (inT hp hs hm) hd hd2
  rw [show waitF (tmT g1 g2 g3) [⟨10, 10, 3, 3⟩] [⟨10, 10, 3, 3⟩] = (11, 0) from wait_ev g1 g2 g3] at this
  exact this
theorem chamber_k {w : World} {g1 g2 g3 g4 : Nat} (hp : SlOf prC 2 w (some ⟨g1, 0, none⟩) 2 [(1600, 200), (1300, 150)]) (hs : SlOf inC 1 w (some ⟨g2, 0, none⟩) 2 [2, 4]) (hm : SlOf prC 2 w (some ⟨g3, 0, none⟩) 2 [(100, 100), (20, 25)]) (hd : SlOf St.cs 4 w (some ⟨g4, 0, none⟩) 1 [⟨10, 10, 8, 8⟩]) :
    Calls Tryz.prog 31 #[.agg #[.slice (some ⟨g1, 0, none⟩) 2 2, .slice (some ⟨g2, 0, none⟩) 2 2], .agg #[.slice (some ⟨g3, 0, none⟩) 2 2], .slice (some ⟨g4, 0, none⟩) 1 1, .agg #[.int .i64 4, .int .i64 4]] w fun e w' => e = .returned (.tuple #[.agg #[.int .i64 1, .int .i64 2], .int .i64 0]) ∧ Below w.heap.size w w' := by
  have := Chamber_c (tmT g1 g2 g3) (smallT _ _ _) (some ⟨g4, 0, none⟩) 1 1 [⟨10, 10, 8, 8⟩] 4 4 (by omega) w (inT hp hs hm) hd
  rw [show chamF (tmT g1 g2 g3) [⟨10, 10, 8, 8⟩] 4 4 = ((1, 2), 0) from cham_ev g1 g2 g3] at this
  exact this
theorem crew_k {w : World} {g1 g2 g3 g4 : Nat} (hp : SlOf prC 2 w (some ⟨g1, 0, none⟩) 2 [(1600, 200), (1300, 150)]) (hs : SlOf inC 1 w (some ⟨g2, 0, none⟩) 2 [2, 4]) (hm : SlOf prC 2 w (some ⟨g3, 0, none⟩) 2 [(100, 100), (20, 25)]) {g5 g6 : Nat} (hn : SlOf prC 2 w (some ⟨g5, 0, none⟩) 2 [(80, 80), (20, 20)]) (hl : Has w g6 28 #[.slice (some ⟨g3, 0, none⟩) 2 2, .slice (some ⟨g5, 0, none⟩) 2 2]) (hd : SlOf St.cs 4 w (some ⟨g4, 0, none⟩) 1 [⟨9, 10, 3, 4⟩]) :
    Calls Tryz.prog 52 #[.agg #[.slice (some ⟨g1, 0, none⟩) 2 2, .slice (some ⟨g2, 0, none⟩) 2 2], .slice (some ⟨g6, 0, none⟩) 2 2, .slice (some ⟨g4, 0, none⟩) 1 1] w fun e w' =>
      ∃ g cap, e = .returned (.tuple #[.slice (some ⟨g, 0, none⟩) 1 cap, .int .i64 0]) ∧ SlOf inC 1 w' (some ⟨g, 0, none⟩) 1 [1] ∧ Below w.heap.size w w' := by
  refine (Crew_c (tmT g1 g2 g3) (smallT _ _ _) (by kernel_rfl) (some ⟨g6, 0, none⟩) (some ⟨g4, 0, none⟩) 2 2 1 1 [⟨some ⟨g3, 0, none⟩, 2, 2, [(100, 100), (20, 25)]⟩, ⟨some ⟨g5, 0, none⟩, 2, 2, [(80, 80), (20, 20)]⟩] [⟨9, 10, 3, 4⟩] (by omega) (by kernel_rfl) (by omega)
    (by intro m hm; simp only [List.mem_cons, List.not_mem_nil, or_false] at hm; rcases hm with rfl | rfl <;> exact ⟨rfl, by kernel_rfl, (by show (2:Nat) ≤ 1000000; omega)⟩) w hp hs (SlOf.of_cells Mn.cs_len hl rfl rfl) (by simp; exact ⟨hm, hn⟩) hd).mono ?_
  rintro e w' ⟨v, rfl, ho, hb⟩
  rw [show crewL (tmT g1 g2 g3) [⟨9, 10, 3, 4⟩] [⟨some ⟨g3, 0, none⟩, 2, 2, [(100, 100), (20, 25)]⟩, ⟨some ⟨g5, 0, none⟩, 2, 2, [(80, 80), (20, 20)]⟩] 2 = [1] by kernel_rfl] at ho
  rcases ho.2 with ⟨_, h⟩ | ⟨g, cap, cur, rfl, _, h3, _, _, _, h7⟩
  · simp at h
  · refine ⟨g, cap, rfl, ⟨rfl, rfl, fun _ => ⟨g, 0, rfl, fun j u hu => ?_⟩⟩, hb⟩
    rw [Nat.zero_add, (Has.cell (w := w') (g := g) (t := 3) (cs := cur) h3 j), ← Array.getElem?_toList]
    have hu' : (flat inC [1])[j]? = some u := hu
    rw [← h7, List.getElem?_take] at hu'
    split at hu'
    · exact hu'
    · cases hu'
theorem print_k (w : World) (g4 : Nat) (hd : SlOf St.cs 4 w (some ⟨g4, 0, none⟩) 1 [⟨9, 10, 3, 4⟩]) :
    Calls Tryz.prog 34 #[.slice (some ⟨g4, 0, none⟩) 1 1] w fun e w' => e = .returned (.tuple #[.string ⟨#[100, 105, 118, 101, 32, 49, 10, 115, 116, 97, 103, 101, 32, 57, 32, 49, 48, 32, 51, 32, 52, 10, 101, 110, 100, 32, 49, 50, 10]⟩, .int .i64 0]) ∧ Below w.heap.size w w' := by
  have := Print_c (some ⟨g4, 0, none⟩) 1 1 [⟨9, 10, 3, 4⟩] (by omega) w hd (by
    intro r hr x hx
    refine itoa_small w x ?_
    simp [rowsOf] at hr
    rcases hr with rfl | rfl <;> simp at hx <;> omega)
  rw [show prnF [⟨9, 10, 3, 4⟩] = _ from slip_ev] at this
  exact this
end Go.Proofs
namespace Go.Proofs
open Go.RowKit Go.Shelf Gas
attribute [local go_sem ↓] Go.wp_at_zero Go.wp_at_succ

/-- A box that was made and stored into. -/
theorem box_below {W : World} (cs cs' : Array Value) (t : TypeId) : Below W.heap.size W ((W.alloc (.cells cs t)).setRow W.heap.size cs') := rowB (newB (Below.refl _ _) _) (Nat.le_refl _) _
theorem box_has {W : World} (cs cs' : Array Value) (t : TypeId) : Has ((W.alloc (.cells cs t)).setRow W.heap.size cs') W.heap.size t cs' := (Has.new W t cs).setRow cs'

section
variable {P : Program} {w0 : World} {ops : Array Oper} {i : Nat} {S : List Spec} {o : Oper} {r : List Oper} {a : Act} {H : Hyps} {K : Act → Hyps → Prop}
theorem OblS.rowG (hg : Region.wanted o (yielded ops a.tmps) = true) (ty : TypeId) (x : Operand) (ho : o.op = .load ty x) (g : Nat) (hx : a.eval x = .pointer (some ⟨g, 0, none⟩)) (t : TypeId) (cs : Array Value) (d : TypeDesc)
    (hh : Has w0 g t cs) (hu : P.underlying ty = some d) (hd : (match d with | .struct _ | .array _ _ => true | _ => false) = true) (hi : (P.info? ty).map (·.size) = some cs.size)
    (h : OblS P ops w0 (i + 1) S r (a.put o.dst (.agg cs)) H K) : OblS P ops w0 i (.v (.agg cs) :: S) (o :: r) a H K := by
  refine ⟨fun w hB hH => .inl ⟨hg, ?_⟩, h⟩
  have hl := run_loadVar_row w g t ty cs (0, 0) d (hh.after hB) hu hd hi
  have hq : (execOp a.eval o).run P w = .ok (.value (.agg cs)) w := by
    unfold execOp
    simp only [ho, hx, Instr.loadAt, Instr.sureAddr, Sem.run_bind, Sem.run_pure, Result.andThen_ok, hl]
  unfold Oper.wp
  rw [hq]
  exact ⟨_, rfl, rfl, Below.refl _ _⟩
end

set_option maxHeartbeats 8000000 in
set_option maxRecDepth 100000 in
theorem knownLaw_c (w : World) : Calls Tryz.prog 15 #[] w fun e w' => e = .returned (.bool true) ∧ Below w.heap.size w w' := by
  have KK := Lib.hid (show KB w (fun _ => True) w from ⟨Below.refl _ _, fun _ _ _ _ => trivial, trivial⟩)
  go_enter Tryz.func15, Tryz.ntmps15
  go_wp2_with (first
    | (go_at_call 43; refine (span_c _ _ _).mono ?_; rintro e w2 ⟨rfl, hb⟩; replace KK := Lib.hid (KK.out.keep hb); clear hb)
    | (go_at_call 42; refine (depth_k _ _ (Has.new _ 88 _)).mono ?_; rintro e wA ⟨rfl, hb⟩; replace KK := Lib.hid (KK.out.keep (nextB (newB (Below.refl _ _) _) hb)); clear hb)
    | (refine wpList_store_all rfl 43 _ _ rfl wA.heap.size rfl _ rfl 43 _ (Has.new wA 43 _) (by kernel_rfl) rfl (by simp [Value.oneCell']) ?_; have bx := box_has (W := wA) #[.int .i64 0, .int .i64 0] #[.int .i64 9, .int .i64 10] 43; replace KK := Lib.hid ((KK.out.keep (box_below #[.int .i64 0, .int .i64 0] #[.int .i64 9, .int .i64 10] 43)).add _ (stable_has _ _ _) bx); clear bx)
    | (go_at_call 44; refine (minutes_k _).mono ?_; rintro e wB ⟨rfl, hb⟩; replace KK := Lib.hid (KK.out.keep hb); clear hb)
    | (refine wpList_store_all rfl 43 _ _ rfl wB.heap.size rfl _ rfl 43 _ (Has.new wB 43 _) (by kernel_rfl) rfl (by simp [Value.oneCell']) ?_; have bx := box_has (W := wB) #[.int .i64 0, .int .i64 0] #[.int .i64 12, .int .i64 16] 43; replace KK := Lib.hid ((KK.out.keep (box_below #[.int .i64 0, .int .i64 0] #[.int .i64 12, .int .i64 16] 43)).add _ (stable_has _ _ _) bx); clear bx)
    | (go_at_call 45; refine (T_c _).mono ?_; rintro e w2 ⟨g1, g2, rfl, hp, hs, hb⟩; replace KK := Lib.hid (KK.out.keep hb); have TT := Lib.hid (And.intro hp hs); clear hp hs hb)
    | (go_at_call 46; refine (M_c _).mono ?_; rintro e w2 ⟨g3, rfl, hm, hb⟩; replace KK := Lib.hid (KK.out.keep hb); replace TT := Lib.hid (And.intro (TT.out.1.keep hb) (TT.out.2.keep hb)); have MM := Lib.hid hm; clear hm hb)
    | (go_at_call 47; refine (W_c _).mono ?_; rintro e w2 ⟨g4, rfl, hd, hb⟩; first | (replace KK := Lib.hid (KK.out.keep hb); replace TT := Lib.hid (And.intro (TT.out.1.keep hb) (TT.out.2.keep hb)); replace MM := Lib.hid (MM.out.keep hb); have DD := Lib.hid hd; clear hd hb) | (replace KK := Lib.hid (KK.out.keep hb); have DD := Lib.hid hd; clear hd hb) | (have hb2 := nextB (newB (Below.refl _ _) _) hb; replace KK := Lib.hid (KK.out.keep hb2); replace TT := Lib.hid (And.intro (TT.out.1.keep hb2) (TT.out.2.keep hb2)); replace MM := Lib.hid (MM.out.keep hb2); replace NN := Lib.hid (NN.out.keep hb2); have LL := Lib.hid ((Has.new _ 28 _).after hb); have DD := Lib.hid hd; clear hd hb hb2))
    | (go_at_call 51; refine (U_c _).mono ?_; rintro e w2 ⟨g4, rfl, hd, hb⟩; first | (replace KK := Lib.hid (KK.out.keep hb); replace TT := Lib.hid (And.intro (TT.out.1.keep hb) (TT.out.2.keep hb)); replace MM := Lib.hid (MM.out.keep hb); have DD := Lib.hid hd; clear hd hb) | (replace KK := Lib.hid (KK.out.keep hb); have DD := Lib.hid hd; clear hd hb) | (have hb2 := nextB (newB (Below.refl _ _) _) hb; replace KK := Lib.hid (KK.out.keep hb2); replace TT := Lib.hid (And.intro (TT.out.1.keep hb2) (TT.out.2.keep hb2)); replace MM := Lib.hid (MM.out.keep hb2); replace NN := Lib.hid (NN.out.keep hb2); have LL := Lib.hid ((Has.new _ 28 _).after hb); have DD := Lib.hid hd; clear hd hb hb2))
    | (go_at_call 50; refine (V_c _).mono ?_; rintro e w2 ⟨g5, rfl, hd, hb⟩; replace KK := Lib.hid (KK.out.keep hb); replace TT := Lib.hid (And.intro (TT.out.1.keep hb) (TT.out.2.keep hb)); replace MM := Lib.hid (MM.out.keep hb); first | (replace DD := Lib.hid (DD.out.keep hb); have D2 := Lib.hid hd; clear hd hb) | (have DD := Lib.hid hd; clear hd hb))
    | (go_at_call 53; refine (N_c _).mono ?_; rintro e w2 ⟨g5, rfl, hn, hb⟩; replace KK := Lib.hid (KK.out.keep hb); replace TT := Lib.hid (And.intro (TT.out.1.keep hb) (TT.out.2.keep hb)); replace MM := Lib.hid (MM.out.keep hb); have NN := Lib.hid hn; clear hn hb)
    | (go_at_call 24; refine (just1_c _ _).mono ?_; rintro e w2 ⟨rfl, hb⟩; replace KK := Lib.hid (KK.out.keep hb); replace TT := Lib.hid (And.intro (TT.out.1.keep hb) (TT.out.2.keep hb)); replace MM := Lib.hid (MM.out.keep hb); (try replace DD := Lib.hid (DD.out.keep hb)); clear hb)
    | (go_at_call 32; refine (known_k TT.out.1 TT.out.2 MM.out DD.out).mono ?_; rintro e w2 ⟨gk, capk, Dk, rfl, hk, hb⟩; replace KK := Lib.hid ((KK.out.keep hb).add _ (stable_and (stable_cell _ _) (stable_sl _ _ _ _ _)) hk); clear hk hb TT MM DD)
    | (go_at_call 48; refine (worst_k TT.out.1 TT.out.2 MM.out DD.out).mono ?_; rintro e w2 ⟨rfl, hb⟩; replace KK := Lib.hid (KK.out.keep hb); clear hb TT MM DD)
    | (go_at_call 49; refine (limit_k TT.out.1 TT.out.2 MM.out).mono ?_; rintro e w2 ⟨rfl, hb⟩; replace KK := Lib.hid (KK.out.keep hb); clear hb TT MM)
    | (go_at_call 16; refine (stop_k TT.out.1 TT.out.2 MM.out DD.out).mono ?_; rintro e wC ⟨rfl, hb⟩; replace KK := Lib.hid (KK.out.keep hb); clear hb TT MM DD)
    | (refine wpList_store_all rfl 31 _ _ rfl wC.heap.size rfl _ rfl 31 _ (Has.new wC 31 _) (by kernel_rfl) rfl (by simp [Value.oneCell']) ?_; have bx := box_has (W := wC) #[.int .i64 0, .int .i64 0] #[.int .i64 2, .int .i64 1] 31; replace KK := Lib.hid ((KK.out.keep (box_below #[.int .i64 0, .int .i64 0] #[.int .i64 2, .int .i64 1] 31)).add _ (stable_has _ _ _) bx); clear bx)
    | (go_at_call 20; refine (moment_k TT.out.1 TT.out.2 MM.out).mono ?_; rintro e wD ⟨rfl, hb⟩; replace KK := Lib.hid (KK.out.keep hb); clear hb TT MM)
    | (refine wpList_store_all rfl 31 _ _ rfl wD.heap.size rfl _ rfl 31 _ (Has.new wD 31 _) (by kernel_rfl) rfl (by simp [Value.oneCell']) ?_; have bx := box_has (W := wD) #[.int .i64 0, .int .i64 0] #[.int .i64 2, .int .i64 9] 31; replace KK := Lib.hid ((KK.out.keep (box_below #[.int .i64 0, .int .i64 0] #[.int .i64 2, .int .i64 9] 31)).add _ (stable_has _ _ _) bx); clear bx)
    | (go_at_call 25; refine (wait_k TT.out.1 TT.out.2 MM.out DD.out D2.out).mono ?_; rintro e w2 ⟨rfl, hb⟩; replace KK := Lib.hid (KK.out.keep hb); clear hb TT MM DD D2)
    | (go_at_call 31; refine (chamber_k TT.out.1 TT.out.2 MM.out DD.out).mono ?_; rintro e wE ⟨rfl, hb⟩; replace KK := Lib.hid (KK.out.keep hb); clear hb TT MM DD)
    | (refine wpList_store_all rfl 31 _ _ rfl wE.heap.size rfl _ rfl 31 _ (Has.new wE 31 _) (by kernel_rfl) rfl (by simp [Value.oneCell']) ?_; have bx := box_has (W := wE) #[.int .i64 0, .int .i64 0] #[.int .i64 1, .int .i64 2] 31; replace KK := Lib.hid ((KK.out.keep (box_below #[.int .i64 0, .int .i64 0] #[.int .i64 1, .int .i64 2] 31)).add _ (stable_has _ _ _) bx); clear bx)
    | (go_at_call 34; refine (print_k _ _ DD.out).mono ?_; rintro e w2 ⟨rfl, hb⟩; replace KK := Lib.hid (KK.out.keep hb); clear hb DD)
    | (go_at_call 52; refine (crew_k TT.out.1 TT.out.2 MM.out NN.out LL.out DD.out).mono ?_; rintro e w2 ⟨gc, capc, rfl, hk, hb⟩; replace KK := Lib.hid ((KK.out.keep hb).add _ (stable_sl _ _ _ _ _) hk); clear hk hb TT MM DD NN LL))
  obtain ⟨kb, _, ⟨⟨⟨⟨⟨⟨_, hA⟩, hBx⟩, hk1, hk2⟩, hC⟩, hD⟩, hE⟩, hcr⟩ := KK.out
  clear KK
  have KB0 := Lib.hid kb; have HA := Lib.hid hA; have HBx := Lib.hid hBx; have HK1 := Lib.hid hk1; have HK2 := Lib.hid hk2; have HC := Lib.hid hC; have HD := Lib.hid hD; have HE := Lib.hid hE; have HCR := Lib.hid hcr
  clear kb hA hBx hk1 hk2 hC hD hE hcr
  apply wp_loose 35 (.v (.agg #[.int .i64 9, .int .i64 10]) :: .v (.agg #[.int .i64 9, .int .i64 10]) :: .v (.bool false) :: .v (.bool false) :: .v (.agg #[.int .i64 12, .int .i64 16]) :: .v (.agg #[.int .i64 12, .int .i64 16]) :: .v (.bool false) :: .v (.bool false) :: .v (.bool false) :: .v (.slice (some ⟨gk, 0, none⟩) 2 capk) :: .v (.pointer (some ⟨gk, 1, none⟩)) :: .v (.slice (some ⟨Dk, 0, none⟩) 2 2) :: .v (.agg #[.int .i64 1438, .int .i64 1618]) :: .v (.agg #[.int .i64 1094, .int .i64 1171]) :: .r (fun v w' => ∃ B, v = .slice (some ⟨B, 0, none⟩) 2 2 ∧ Has w' B 43 #[.int .i64 1438, .int .i64 1618, .int .i64 1094, .int .i64 1171]) :: .v (.bool true) :: .v (.bool false) :: .v (.bool false) :: .v (.bool false) :: .v (.int .i64 1) :: .v (.bool false) :: .v (.bool false) :: .v (.bool false) :: .v (.int .i64 0) :: .v (.bool false) :: .v (.bool false) :: .v (.bool false) :: .v (.int .i64 3) :: .v (.bool false) :: .v (.bool false) :: .v (.bool false) :: .v (.agg #[.int .i64 2, .int .i64 1]) :: .v (.agg #[.int .i64 2, .int .i64 1]) :: .v (.bool false) :: .v (.bool false) :: []) (by kernel_rfl) (by kernel_rfl) (by kernel_rfl) (by decide) rfl
  intro K hK
  refine OblS.rowG (by kernel_rfl) 43 (.tmp 1) (by kernel_rfl) wA.heap.size (by kernel_rfl) 43 _ _ HA.out Tryz.underlying43 rfl (by kernel_rfl) ?_
  refine OblS.call 43 (by kernel_rfl) (fun w' hb _ => ⟨_, (by kernel_rfl), span_c _ _ w'⟩) ?_
  refine OblS.val (by kernel_rfl) (fun w' _ _ => (by kernel_rfl)) ?_
  refine OblS.val (by kernel_rfl) (fun w' _ _ => (by kernel_rfl)) ?_
  refine OblS.rowG (by kernel_rfl) 43 (.tmp 3) (by kernel_rfl) wB.heap.size (by kernel_rfl) 43 _ _ HBx.out Tryz.underlying43 rfl (by kernel_rfl) ?_
  refine OblS.call 43 (by kernel_rfl) (fun w' hb _ => ⟨_, (by kernel_rfl), span_c _ _ w'⟩) ?_
  refine OblS.val (by kernel_rfl) (fun w' _ _ => (by kernel_rfl)) ?_
  refine OblS.val (by kernel_rfl) (fun w' _ _ => (by kernel_rfl)) ?_
  refine OblS.val (by kernel_rfl) (fun w' _ _ => (by kernel_rfl)) ?_
  refine OblS.val (by kernel_rfl) (fun w' _ _ => (by kernel_rfl)) ?_
  refine OblS.val (by kernel_rfl) (fun w' _ _ => (by kernel_rfl)) ?_
  refine OblS.val (by kernel_rfl) (fun w' hb _ => ?_) ?_
  · have hc := (stable_cell _ _ _ _ HK1.out hb); go_simp
  refine OblS.call 43 (by kernel_rfl) (fun w' hb _ => ⟨_, (by kernel_rfl), span_c _ _ w'⟩) ?_
  refine OblS.call 43 (by kernel_rfl) (fun w' hb _ => ⟨_, (by kernel_rfl), span_c _ _ w'⟩) ?_
  refine OblS.run (by rintro v w1 w2 ⟨B, e, h⟩ hb; exact ⟨B, e, h.after hb⟩) (by kernel_rfl) (fun w' hb _ => ⟨_, _, (by kernel_rfl), ⟨w'.heap.size, rfl, Has.new w' 43 _⟩, newB (Below.refl _ _) _⟩) ?_
  intro v14
  refine OblS.call 54 (by kernel_rfl) (fun w' hb hH => ?_) ?_
  · obtain ⟨B, rfl, hB⟩ := hH _ (List.mem_cons_self ..) (by kernel_rfl)
    exact ⟨#[.slice (some ⟨Dk, 0, none⟩) 2 2, .slice (some ⟨B, 0, none⟩) 2 2], (by kernel_rfl), sameSpans_c _ _ _ _ _ [(1438, 1618), (1094, 1171)] (by omega) w' (HK2.out.keep hb) (SlOf.of_cells prC_len hB rfl rfl)⟩
  refine OblS.val (by kernel_rfl) (fun w' _ _ => (by kernel_rfl)) ?_
  refine OblS.val (by kernel_rfl) (fun w' _ _ => (by kernel_rfl)) ?_
  refine OblS.val (by kernel_rfl) (fun w' _ _ => (by kernel_rfl)) ?_
  refine OblS.val (by kernel_rfl) (fun w' _ _ => (by kernel_rfl)) ?_
  refine OblS.val (by kernel_rfl) (fun w' _ _ => (by kernel_rfl)) ?_
  refine OblS.val (by kernel_rfl) (fun w' _ _ => (by kernel_rfl)) ?_
  refine OblS.val (by kernel_rfl) (fun w' _ _ => (by kernel_rfl)) ?_
  refine OblS.val (by kernel_rfl) (fun w' _ _ => (by kernel_rfl)) ?_
  refine OblS.val (by kernel_rfl) (fun w' _ _ => (by kernel_rfl)) ?_
  refine OblS.val (by kernel_rfl) (fun w' _ _ => (by kernel_rfl)) ?_
  refine OblS.val (by kernel_rfl) (fun w' _ _ => (by kernel_rfl)) ?_
  refine OblS.val (by kernel_rfl) (fun w' _ _ => (by kernel_rfl)) ?_
  refine OblS.val (by kernel_rfl) (fun w' _ _ => (by kernel_rfl)) ?_
  refine OblS.val (by kernel_rfl) (fun w' _ _ => (by kernel_rfl)) ?_
  refine OblS.val (by kernel_rfl) (fun w' _ _ => (by kernel_rfl)) ?_
  refine OblS.rowG (by kernel_rfl) 31 (.tmp 12) (by kernel_rfl) wC.heap.size (by kernel_rfl) 31 _ _ HC.out Tryz.underlying31 rfl (by kernel_rfl) ?_
  refine OblS.val (by kernel_rfl) (fun w' _ _ => (by kernel_rfl)) ?_
  refine OblS.val (by kernel_rfl) (fun w' _ _ => (by kernel_rfl)) ?_
  refine OblS.val (by kernel_rfl) (fun w' _ _ => (by kernel_rfl)) ?_
  apply OblS.nil
  apply hK
  intro w5 hb hH
  clear hH hK K
  simp only [Act.put, List.setIfInBounds_toArray, List.set_cons_zero, List.set_cons_succ, List.drop_succ_cons, List.drop_zero]
  have hk := KB0.out
  have KB5 := Lib.hid (nextB hk hb)
  have cD := (HD.out.after hb).cell; have cE := (HE.out.after hb).cell
  have HCR5 := Lib.hid (HCR.out.keep hb)
  clear hk hb
  go_wp2_with (go_at_call 55; refine (same_c _ _ _ _ _ [1] (by omega) _ (HCR5.out.keep (newB (Below.refl _ _) _)) (SlOf.of_cells inC_len (Has.new w5 3 _) rfl rfl)).mono ?_; rintro e w6 ⟨rfl, hb6⟩; have HB6 := Lib.hid (nextB KB5.out (nextB (newB (Below.refl _ _) _) hb6)); clear hb6)
  exact bodyPost_ret (results_tmp rfl _ _ _) rfl ⟨rfl, HB6.out⟩
end Go.Proofs
