/-
  The laws' own self-test returns true in every world in which strconv's table is laid.
-/
import Derived.Test.YtplhaohcmhepbaaGreatDoorP9
import Derived.Test.YtplhaohcmhepbaaGreatDoorP10
import Derived.Test.YtplhaohcmhepbaaGreatDoorP6
namespace Go.Proofs
open Go.RowKit Go.Shelf
theorem ev_seas11 : seasonB (sP 1 1) sL = true := by kernel_rfl
theorem ev_seas31 : seasonB (sP 3 1) sL = true := by kernel_rfl
theorem ev_seas12 : seasonB (sP 1 2) sL = true := by kernel_rfl
theorem ev_tot : totL (sP 1 1) sL = [4800, 3200, 1000] := by kernel_rfl
theorem ev_den : denF (sP 1 1) sL = 60 := by kernel_rfl
def endsU : List En := [⟨80, 0, 106, 0, 0⟩, ⟨53, 26, 27, 0, 14⟩, ⟨16, 10, 6, 0, 0⟩]
theorem ev_ends : endsF (sP 3 1) sL = endsU := by kernel_rfl
theorem ev_box : boxF (sP 3 1) sL = 1 := by kernel_rfl
theorem ev_owed : owedF (sP 1 1) sL 1 4 = (53, 60, 0) := by kernel_rfl
theorem ev_trips : tripsF (sP 1 1) sL 2 8 = ([1], 0) := by kernel_rfl
theorem ev_caps : capsL (sP 1 1) [0, 30, 30] 300 = [0, 30, 30] := by kernel_rfl
theorem ev_easterB : easterB (sP 1 1) sL [0, 30, 30] 41 300 = true := by kernel_rfl
theorem ev_lev : (List.range 20).all (fun i => !levQ [0, 30, 30] 41 i) = true := by kernel_rfl
theorem ev_lev20 : levQ [0, 30, 30] 41 20 = true := by kernel_rfl
theorem ev_fair : fairL [0, 30, 30] 41 20 = [0, 21, 20] := by kernel_rfl
theorem fair_ev (xs : List Int) (h : IsFair [0, 30, 30] 41 xs) : xs = [0, 21, 20] := by
  obtain ⟨n, hf, rfl⟩ := h
  have h1 : n ≤ 20 := by
    by_cases h : n ≤ 20
    · exact h
    · have := hf.no 20 (by omega); rw [ev_lev20] at this; cases this
  have h2 : ¬ n < 20 := by
    intro hlt
    have h3 := hf.yes (by omega)
    have h4 := List.all_eq_true.1 ev_lev n (List.mem_range.2 hlt)
    rw [h3] at h4; cases h4
  have : n = 20 := by omega
  subst this
  exact ev_fair
theorem ev_nextB : nextB' (sP 1 2) sL [0, 5, 0] = true := by kernel_rfl
theorem ev_next : nextL (sP 1 2) sL [0, 5, 0] = [0, 5, 10] := by kernel_rfl
def bkS : Bk := ⟨[[3000, 2000, 1000], [1800, 1200, 0], [0, 0, 0]], [6000, 3000, 0], [4800, 3200, 1000], 9000⟩
theorem ev_book : bookF (sP 1 1) sL = bkS := by kernel_rfl
def bkT : Bk := ⟨[[3000, 2010, 1000], [1800, 1200, 0], [0, 0, 0]], [6000, 3000, 0], [4800, 3200, 1000], 9000⟩
theorem ev_bookB : bookB bkS = true := by kernel_rfl
theorem ev_mend : mendA bkT = (⟨1, 0, 1, 2000⟩, 0) := by kernel_rfl
def txt : List UInt8 := [115, 101, 97, 115, 111, 110, 32, 50, 32, 49, 10, 112, 101, 114, 115, 111, 110, 32, 49, 32, 48, 32, 115, 116, 97, 121, 115, 10, 112, 101, 114, 115, 111, 110, 32, 50, 32, 55, 32, 100, 105, 101, 115, 10, 108, 97, 110, 100, 105, 110, 103, 32, 57, 48, 32, 49, 53, 32, 48, 32, 49, 10, 101, 110, 100, 32, 48, 52, 52, 10]
theorem ev_read : readF txt = (([⟨1, 0, 1⟩, ⟨2, 7, 3⟩], [⟨90, 15, 3⟩]), 0) := by kernel_rfl
theorem ev_text : textF [⟨1, 0, 1⟩, ⟨2, 7, 3⟩] [⟨90, 15, 3⟩] = txt := by kernel_rfl
end Go.Proofs
namespace Go.Proofs
open Go.RowKit Go.Shelf
attribute [local go_sem ↓] Go.wp_at_zero Go.wp_at_succ

/-- What stays true while memory only grows. -/
def Stable (p : World → Prop) : Prop := ∀ w w', p w → Below w.heap.size w w' → p w'
structure KB (w0 : World) (p : World → Prop) (w : World) : Prop where
  below : Below w0.heap.size w0 w
  st : Stable p
  now : p w
theorem KB.keep {w0 w w' : World} {p : World → Prop} (h : KB w0 p w) (hb : Below w.heap.size w w') : KB w0 p w' := ⟨nextB h.below hb, h.st, h.st w w' h.now hb⟩
theorem KB.add {w0 w : World} {p : World → Prop} (h : KB w0 p w) (q : World → Prop) (hs : Stable q) (hq : q w) : KB w0 (fun x => p x ∧ q x) w :=
  ⟨h.below, fun a b hab hb => ⟨h.st a b hab.1 hb, hs a b hab.2 hb⟩, h.now, hq⟩
theorem stable_has (g : Nat) (t : TypeId) (cs : Array Value) : Stable fun w => Has w g t cs := fun _ _ h hb => h.after hb
theorem stable_sl {α : Type} (f : α → List Value) (sz : Nat) (A : Option Addr) (n : Nat) (xs : List α) : Stable fun w => SlOf f sz w A n xs := fun _ _ h hb => h.keep hb

def svOf (g h : Nat) (f2 f3 : Int) : Sv := ⟨some ⟨g, 0, none⟩, some ⟨h, 0, none⟩, 3, 3, 3, 3, sP f2 f3, sL⟩
theorem svOf_in {w : World} {g h : Nat} {f2 f3 : Int} (hg : Has w g 49 (sPc f2 f3)) (hh : Has w h 44 sLc) : (svOf g h f2 f3).In w := ⟨SlOf.of_cells Pe.cs_len hg rfl rfl, SlOf.of_cells La.cs_len hh rfl rfl⟩
abbrev svV (g h : Nat) : Value := .agg #[.slice (some ⟨g, 0, none⟩) 3 3, .slice (some ⟨h, 0, none⟩) 3 3]
theorem claims_k {w : World} {g h : Nat} (hg : Has w g 49 (sPc 1 1)) (hh : Has w h 44 sLc) : Calls Tryz.prog 26 #[svV g h] w fun e w' => ∃ A c, e = .returned (.tuple #[.slice A 3 c, .int .i64 60, .int .i64 0]) ∧ SlOf inC 1 w' A 3 [4800, 3200, 1000] ∧ Below w.heap.size w w' := by
  refine (claims_ok (svOf g h 1 1) ((seas_iff _ _).1 ev_seas11) w (svOf_in hg hh)).mono ?_
  rintro e w' ⟨v, rfl, ho, hb⟩
  simp only [svOf] at ho ⊢
  rw [ev_den]; rw [ev_tot] at ho
  obtain ⟨A, c, rfl, hs, _⟩ := ho.sl
  exact ⟨A, c, rfl, hs, hb⟩
theorem settle_k {w : World} {g h : Nat} (hg : Has w g 49 (sPc 3 1)) (hh : Has w h 44 sLc) : Calls Tryz.prog 31 #[svV g h] w fun e w' => ∃ A c, e = .returned (.tuple #[.slice A 3 c, .int .i64 1, .int .i64 0]) ∧ SlOf En.cs 5 w' A 3 endsU ∧ Below w.heap.size w w' := by
  refine (settle_ok (svOf g h 3 1) ((seas_iff _ _).1 ev_seas31) w (svOf_in hg hh)).mono ?_
  rintro e w' ⟨v, rfl, ho, hb⟩
  simp only [svOf] at ho ⊢
  rw [ev_box]; rw [ev_ends] at ho
  obtain ⟨A, c, rfl, hs, _⟩ := ho.sl
  exact ⟨A, c, rfl, hs, hb⟩
theorem owed_k {w : World} {g h : Nat} (hg : Has w g 49 (sPc 1 1)) (hh : Has w h 44 sLc) : Calls Tryz.prog 38 #[svV g h, .int .i64 1, .int .i64 4] w fun e w' => e = .returned (.tuple #[.agg #[.int .i64 53, .int .i64 60], .int .i64 0]) ∧ Below w.heap.size w w' := by
  refine (Owed_c (svOf g h 1 1) 1 4 (by simp [svOf]) (by simp [svOf]) w (svOf_in hg hh)).mono ?_
  rintro e w' ⟨rfl, hb⟩
  simp only [svOf]
  rw [ev_owed]
  exact ⟨rfl, hb⟩
theorem trips_k {w : World} {g h : Nat} (hg : Has w g 49 (sPc 1 1)) (hh : Has w h 44 sLc) : Calls Tryz.prog 43 #[svV g h, .int .i64 2, .int .i64 8] w fun e w' => ∃ A c, e = .returned (.tuple #[.slice A 1 c, .int .i64 0]) ∧ SlOf inC 1 w' A 1 [1] ∧ Below w.heap.size w w' := by
  refine (Trips_c (svOf g h 1 1) 2 8 (by simp [svOf]) (by simp [svOf]) w (svOf_in hg hh)).mono ?_
  rintro e w' ⟨v, rfl, ho, hb⟩
  simp only [svOf] at ho ⊢
  rw [ev_trips] at ho ⊢
  obtain ⟨A, c, rfl, hs, _⟩ := ho.sl
  exact ⟨A, c, rfl, hs, hb⟩
theorem easter_k {w : World} {g h k : Nat} (hg : Has w g 49 (sPc 1 1)) (hh : Has w h 44 sLc) (hk : Has w k 3 #[.int .i64 0, .int .i64 30, .int .i64 30]) : Calls Tryz.prog 47 #[svV g h, .slice (some ⟨k, 0, none⟩) 3 3, .int .i64 41, .int .i64 300] w fun e w' => ∃ A c, e = .returned (.tuple #[.slice A 3 c, .int .i64 0]) ∧ SlOf inC 1 w' A 3 [0, 21, 20] ∧ Below w.heap.size w w' := by
  refine (easter_ok (svOf g h 1 1) (some ⟨k, 0, none⟩) 3 3 [0, 30, 30] 41 300 ev_easterB w (svOf_in hg hh) (SlOf.of_cells inC_len hk rfl rfl)).mono ?_
  rintro e w' ⟨xs, v, hf, rfl, ho, hb⟩
  simp only [svOf] at hf
  rw [ev_caps] at hf
  rw [fair_ev xs hf] at ho
  obtain ⟨A, c, rfl, hs, _⟩ := ho.sl
  exact ⟨A, c, rfl, hs, hb⟩
theorem next_k {w : World} {g h k : Nat} (hg : Has w g 49 (sPc 1 2)) (hh : Has w h 44 sLc) (hk : Has w k 3 #[.int .i64 0, .int .i64 5, .int .i64 0]) : Calls Tryz.prog 56 #[svV g h, .slice (some ⟨k, 0, none⟩) 3 3] w fun e w' => ∃ A c, e = .returned (.tuple #[.slice A 3 c, .int .i64 0]) ∧ SlOf inC 1 w' A 3 [0, 5, 10] ∧ Below w.heap.size w w' := by
  refine (next_ok (svOf g h 1 2) (some ⟨k, 0, none⟩) 3 3 [0, 5, 0] ev_nextB w (svOf_in hg hh) (SlOf.of_cells inC_len hk rfl rfl)).mono ?_
  rintro e w' ⟨v, rfl, ho, hb⟩
  simp only [svOf] at ho
  rw [ev_next] at ho
  obtain ⟨A, c, rfl, hs, _⟩ := ho.sl
  exact ⟨A, c, rfl, hs, hb⟩
def bmOf (gr g0 rc ac dc c0 : Nat) (A D : Option Addr) (s1 s2 : Sl3) (b : Bk) : Bm := ⟨some ⟨gr, 0, none⟩, A, D, 3, rc, 3, ac, 3, dc, [(some ⟨g0, 0, none⟩, 3, c0), s1, s2], b⟩
theorem own_at {α : Type} {e : El α} {B n c : Nat} {A : Option Addr} {xs : List α} {w : World} (h : Own e B (.slice A n c) xs w) (hx : xs ≠ []) : ∃ g, A = some ⟨g, 0, none⟩ := by
  rcases h.2 with ⟨_, h1⟩ | ⟨g, cap, cur, e1, _⟩
  · exact absurd (List.eq_nil_of_length_eq_zero h1) hx
  · cases e1; exact ⟨g, rfl⟩
theorem book_k {w : World} {g h : Nat} (hg : Has w g 49 (sPc 1 1)) (hh : Has w h 44 sLc) : Calls Tryz.prog 59 #[svV g h] w fun e w' => ∃ gr g0 rc ac dc c0 A D s1 s2, e = .returned (.tuple #[.agg #[.slice (some ⟨gr, 0, none⟩) 3 rc, .slice A 3 ac, .slice D 3 dc, .int .i64 9000], .int .i64 0]) ∧ BOwn w.heap.size (bmOf gr g0 rc ac dc c0 A D s1 s2 bkS) w' ∧ s1.2.1 = 3 ∧ s2.2.1 = 3 ∧ Below w.heap.size w w' := by
  refine (book_ok (svOf g h 1 1) ((seas_iff _ _).1 ev_seas11) w (svOf_in hg hh)).mono ?_
  rintro e w' ⟨m, rfl, hm, ho, hb⟩
  simp only [svOf] at hm
  rw [ev_book] at hm
  obtain ⟨R, A, D, rn, rc, an, ac, dn, dc, ss, b⟩ := m
  simp only at hm
  subst hm
  have h1 := ho.len; have h2 := ho.rlen
  simp only [bkS, List.length_cons, List.length_nil] at h1 h2
  rw [h1] at h2
  have h3 := ho.ac.1; have h4 := ho.dn.1
  simp only [bkS, List.length_cons, List.length_nil] at h3 h4
  simp only [Nat.reduceAdd] at h1 h2 h3 h4
  match ss, h1 with
  | [s0, s1, s2], _ =>
    subst h2; subst h3; subst h4
    obtain ⟨gr, rfl⟩ := own_at ho.hs (by simp)
    obtain ⟨r0, q0⟩ := ho.rows 0 s0 _ rfl rfl
    obtain ⟨r1, q1⟩ := ho.rows 1 s1 _ rfl rfl
    obtain ⟨r2, q2⟩ := ho.rows 2 s2 _ rfl rfl
    obtain ⟨a0, n0, c0⟩ := s0
    simp only [List.length_cons, List.length_nil, Nat.reduceAdd] at r0 r1 r2
    subst r0
    obtain ⟨g0, rfl⟩ := own_at q0 (by simp)
    exact ⟨gr, g0, rc, ac, dc, c0, A, D, s1, s2, rfl, ho, r1, r2, hb⟩
theorem bm_small (gr g0 rc ac dc c0 : Nat) (A D : Option Addr) (s1 s2 : Sl3) (b : Bk) : (bmOf gr g0 rc ac dc c0 A D s1 s2 b).Small := ⟨by simp [bmOf], by simp [bmOf], by simp [bmOf]⟩
theorem bm_hrn {gr g0 rc ac dc c0 : Nat} {A D : Option Addr} {s1 s2 : Sl3} {b : Bk} (h1 : s1.2.1 = 3) (h2 : s2.2.1 = 3) : ∀ s ∈ (bmOf gr g0 rc ac dc c0 A D s1 s2 b).ss, s.2.1 ≤ 1000000 := by
  intro s hs
  simp only [bmOf, List.mem_cons, List.not_mem_nil, or_false] at hs
  rcases hs with rfl | rfl | rfl <;> simp [h1, h2]
abbrev bkV (gr rc ac dc : Nat) (A D : Option Addr) : Value := .agg #[.slice (some ⟨gr, 0, none⟩) 3 rc, .slice A 3 ac, .slice D 3 dc, .int .i64 9000]
theorem refBook_k {w : World} {B gr g0 rc ac dc c0 : Nat} {A D : Option Addr} {s1 s2 : Sl3} (ho : BOwn B (bmOf gr g0 rc ac dc c0 A D s1 s2 bkS) w) (h1 : s1.2.1 = 3) (h2 : s2.2.1 = 3) :
    Calls Tryz.prog 62 #[bkV gr rc ac dc A D] w fun e w' => e = .returned (.bool true) ∧ Below w.heap.size w w' := by
  have := refBook_c (bmOf gr g0 rc ac dc c0 A D s1 s2 bkS) (bm_small ..) (bm_hrn h1 h2) w ho.toIn
  simp only [bmOf] at this
  rw [ev_bookB] at this
  exact this
theorem mend_k {w : World} {B gr g0 rc ac dc c0 : Nat} {A D : Option Addr} {s1 s2 : Sl3} (ho : BOwn B (bmOf gr g0 rc ac dc c0 A D s1 s2 bkT) w) (h1 : s1.2.1 = 3) (h2 : s2.2.1 = 3) :
    Calls Tryz.prog 65 #[bkV gr rc ac dc A D] w fun e w' => e = .returned (.tuple #[.agg #[.int .i64 1, .int .i64 0, .int .i64 1, .int .i64 2000], .int .i64 0]) ∧ Below w.heap.size w w' := by
  have := Mend_c (bmOf gr g0 rc ac dc c0 A D s1 s2 bkT) (bm_small ..) (bm_hrn h1 h2) w ho.toIn
  simp only [bmOf] at this
  rw [ev_mend] at this
  exact this
/-- The book with its wrong number. -/
theorem book_spoil {w : World} {B gr g0 rc ac dc c0 : Nat} {A D : Option Addr} {s1 s2 : Sl3} (ho : BOwn B (bmOf gr g0 rc ac dc c0 A D s1 s2 bkS) w) : BOwn B (bmOf gr g0 rc ac dc c0 A D s1 s2 bkT) (w.setCell ⟨g0, 1, none⟩ (.int .i64 2010)) :=
  ho.setRowAt (i := 0) (k := 1) (gb := g0) (n := 3) (c := c0) (r := [3000, 2000, 1000]) rfl rfl (by decide) 2010
theorem read_k {w : World} (hI : ItoaAll w) : Calls Tryz.prog 71 #[.string (bs txt)] w fun e w' => ∃ (A1 A2 : Option Addr) (c1 c2 : Nat), e = .returned (.tuple #[.agg #[.slice A1 2 c1, .slice A2 1 c2], .int .i64 0]) ∧ SlOf Pe.cs 3 w' A1 2 [⟨1, 0, 1⟩, ⟨2, 7, 3⟩] ∧ SlOf La.cs 3 w' A2 1 [⟨90, 15, 3⟩] ∧ Below w.heap.size w w' := by
  refine (Read_c txt w hI).mono ?_
  rintro e w' ⟨⟨A1, A2, c1, c2, rfl, h1, h2⟩, hb⟩
  rw [ev_read] at h1 h2 ⊢
  obtain ⟨A1', c1', e1, s1, _⟩ := h1.sl
  obtain ⟨A2', c2', e2, s2, _⟩ := h2.sl
  cases e1; cases e2
  exact ⟨_, _, _, _, rfl, s1, s2, hb⟩
theorem print_k {w : World} {A1 A2 : Option Addr} {c1 c2 : Nat} (h1 : SlOf Pe.cs 3 w A1 2 [⟨1, 0, 1⟩, ⟨2, 7, 3⟩]) (h2 : SlOf La.cs 3 w A2 1 [⟨90, 15, 3⟩]) :
    Calls Tryz.prog 72 #[.agg #[.slice A1 2 c1, .slice A2 1 c2]] w fun e w' => e = .returned (.string (bs txt)) ∧ Below w.heap.size w w' := by
  have := refPrint_c ⟨A1, A2, 2, c1, 1, c2, [⟨1, 0, 1⟩, ⟨2, 7, 3⟩], [⟨90, 15, 3⟩]⟩ (by simp [PeT]) (by simp [LaT]) (by simp) (by simp) (by simp) w ⟨h1, h2⟩
  simp only at this
  rw [ev_text] at this
  exact this
end Go.Proofs
namespace Go.Proofs
open Go.RowKit Go.Shelf
attribute [local go_sem ↓] Go.wp_at_zero Go.wp_at_succ

theorem box_below {W : World} (cs cs' : Array Value) (t : TypeId) : Below W.heap.size W ((W.alloc (.cells cs t)).setRow W.heap.size cs') := rowB (newB (Below.refl _ _) _) (Nat.le_refl _) _
theorem box_has {W : World} (cs cs' : Array Value) (t : TypeId) : Has ((W.alloc (.cells cs t)).setRow W.heap.size cs') W.heap.size t cs' := (Has.new W t cs).setRow cs'
theorem same_k (L : List Int) (A : Option Addr) (n c : Nat) (cs : Array Value) {w : World} (h : SlOf inC 1 w A n L) (hc : cs.toList = flat inC L) (hl : L.length = n) (hn : n ≤ 1000000) :
    Calls Tryz.prog 29 #[.slice A n c, .slice (some ⟨w.heap.size, 0, none⟩) n n] (w.alloc (.cells cs 3)) fun e w' => e = .returned (.bool true) ∧ Below w.heap.size w w' := by
  refine (same_c A _ n n c n L L hn _ (h.keep (newB (Below.refl _ _) _)) (SlOf.of_cells inC_len (Has.new w 3 cs) hl hc)).mono ?_
  rintro e w' ⟨rfl, hb⟩
  exact ⟨by rw [decide_eq_true (rfl : L = L)], nextB (newB (Below.refl _ _) _) hb⟩
theorem sameEnds_k (L : List En) (A : Option Addr) (n c : Nat) (cs : Array Value) {w : World} (g : Nat) (hg : g = w.heap.size) (h : SlOf En.cs 5 w A n L) (hc : cs.toList = flat En.cs L) (hl : L.length = n) (hn : n ≤ 1000000) :
    Calls Tryz.prog 33 #[.slice A n c, .slice (some ⟨g, 0, none⟩) n n] (w.alloc (.cells cs 46)) fun e w' => e = .returned (.bool true) ∧ Below w.heap.size w w' := by
  subst hg
  refine (sameEnds_c A _ n n c n L L hn _ (h.keep (newB (Below.refl _ _) _)) (SlOf.of_cells En.cs_len (Has.new w 46 cs) hl hc)).mono ?_
  rintro e w' ⟨rfl, hb⟩
  exact ⟨by rw [decide_eq_true (rfl : L = L)], nextB (newB (Below.refl _ _) _) hb⟩
/-- What is needed to set a number of the book wrong. -/
theorem spoil_facts {B gr g0 rc ac dc c0 : Nat} {A D : Option Addr} {s1 s2 : Sl3} {w : World} (ho : BOwn B (bmOf gr g0 rc ac dc c0 A D s1 s2 bkS) w) :
    w.cell? ⟨gr, 0, none⟩ = some (.slice (some ⟨g0, 0, none⟩) 3 c0) ∧ w.cell? ⟨g0, 1, none⟩ = some (.int .i64 2000) ∧ (∀ i, w.frozen? ⟨g0, i, none⟩ = false) ∧ B ≤ g0 ∧ g0 < w.heap.size := by
  have hH := (ho.toIn.hs).range slC_len (k := 0) rfl 0 _ rfl
  obtain ⟨_, hr⟩ := ho.rows 0 _ _ rfl rfl
  obtain ⟨cur, hcur, h1⟩ := Own.has hr rfl (k := 1) rfl
  obtain ⟨b1, b2⟩ := own_lt hr g0 rfl
  exact ⟨by simpa using hH, by rw [hcur.cell 1]; exact h1, fun i => hcur.frozen i, b1, b2⟩
set_option maxRecDepth 10000 in
theorem txt_bs : (bs txt) = (⟨#[115, 101, 97, 115, 111, 110, 32, 50, 32, 49, 10, 112, 101, 114, 115, 111, 110, 32, 49, 32, 48, 32, 115, 116, 97, 121, 115, 10, 112, 101, 114, 115, 111, 110, 32, 50, 32, 55, 32, 100, 105, 101, 115, 10, 108, 97, 110, 100, 105, 110, 103, 32, 57, 48, 32, 49, 53, 32, 48, 32, 49, 10, 101, 110, 100, 32, 48, 52, 52, 10]⟩ : ByteArray) := by kernel_rfl
theorem read_k2 {w : World} (hI : ItoaAll w) : Calls Tryz.prog 71 #[.string ⟨#[115, 101, 97, 115, 111, 110, 32, 50, 32, 49, 10, 112, 101, 114, 115, 111, 110, 32, 49, 32, 48, 32, 115, 116, 97, 121, 115, 10, 112, 101, 114, 115, 111, 110, 32, 50, 32, 55, 32, 100, 105, 101, 115, 10, 108, 97, 110, 100, 105, 110, 103, 32, 57, 48, 32, 49, 53, 32, 48, 32, 49, 10, 101, 110, 100, 32, 48, 52, 52, 10]⟩] w fun e w' => ∃ (A1 A2 : Option Addr) (c1 c2 : Nat), e = .returned (.tuple #[.agg #[.slice A1 2 c1, .slice A2 1 c2], .int .i64 0]) ∧ SlOf Pe.cs 3 w' A1 2 [⟨1, 0, 1⟩, ⟨2, 7, 3⟩] ∧ SlOf La.cs 3 w' A2 1 [⟨90, 15, 3⟩] ∧ Below w.heap.size w w' := by
  have := read_k hI
  rwa [txt_bs] at this
theorem print_k2 {w : World} {A1 A2 : Option Addr} {c1 c2 : Nat} (h1 : SlOf Pe.cs 3 w A1 2 [⟨1, 0, 1⟩, ⟨2, 7, 3⟩]) (h2 : SlOf La.cs 3 w A2 1 [⟨90, 15, 3⟩]) :
    Calls Tryz.prog 72 #[.agg #[.slice A1 2 c1, .slice A2 1 c2]] w fun e w' => e = .returned (.string ⟨#[115, 101, 97, 115, 111, 110, 32, 50, 32, 49, 10, 112, 101, 114, 115, 111, 110, 32, 49, 32, 48, 32, 115, 116, 97, 121, 115, 10, 112, 101, 114, 115, 111, 110, 32, 50, 32, 55, 32, 100, 105, 101, 115, 10, 108, 97, 110, 100, 105, 110, 103, 32, 57, 48, 32, 49, 53, 32, 48, 32, 49, 10, 101, 110, 100, 32, 48, 52, 52, 10]⟩) ∧ Below w.heap.size w w' := by
  have := print_k (c1 := c1) (c2 := c2) h1 h2
  rwa [txt_bs] at this
theorem eq56 (W : World) : (Op.equalIn 10000 56 (.agg #[.int .i64 53, .int .i64 60]) (.agg #[.int .i64 53, .int .i64 60])).run Tryz.prog W = .ok true W := by
  rw [run_equalIn_struct _ _ _ _ _ (by kernel_rfl) (by kernel_rfl)]
  simp [go_sem, Op.eqFields, Tryz.underlying56, Program.fieldsOf]
theorem eq90 (W : World) : (Op.equalIn 10000 90 (.agg #[.int .i64 1, .int .i64 0, .int .i64 1, .int .i64 2000]) (.agg #[.int .i64 1, .int .i64 0, .int .i64 1, .int .i64 2000])).run Tryz.prog W = .ok true W := by
  rw [run_equalIn_struct _ _ _ _ _ (by kernel_rfl) (by kernel_rfl)]
  simp [go_sem, Op.eqFields, Tryz.underlying90, Program.fieldsOf]
end Go.Proofs
namespace Go.Proofs
open Go.RowKit Go.Shelf
attribute [local go_sem ↓] Go.wp_at_zero Go.wp_at_succ
set_option maxHeartbeats 8000000 in
set_option maxRecDepth 100000 in
theorem knownLaw_c (w : World) (hI : ItoaAll w) : Calls Tryz.prog 24 #[] w fun e w' => e = .returned (.bool true) ∧ Below w.heap.size w w' := by
  have KK := Lib.hid (show KB w (fun _ => True) w from ⟨Below.refl _ _, fun _ _ _ _ => trivial, trivial⟩)
  have HI := Lib.hid hI
  have q56 := eq56; have q90 := eq90
  clear hI
  go_enter Tryz.func24, Tryz.ntmps24
  go_wp2_with (first
    | (go_at_call 75; refine (S_c _).mono ?_; rintro e w2 ⟨⟨g, h, rfl, hg, hh, _, _⟩, hb⟩; replace KK := Lib.hid (KK.out.keep hb); have SS := Lib.hid (And.intro hg hh); clear hg hh hb)
    | (go_at_call 76; refine (U_c _).mono ?_; rintro e w2 ⟨⟨g, h, rfl, hg, hh, _, _⟩, hb⟩; replace KK := Lib.hid (KK.out.keep hb); have SS := Lib.hid (And.intro hg hh); clear hg hh hb)
    | (go_at_call 77; refine (T_c _).mono ?_; rintro e w2 ⟨⟨g, h, rfl, hg, hh, _, _⟩, hb⟩; replace KK := Lib.hid (KK.out.keep hb); have SS := Lib.hid (And.intro hg hh); clear hg hh hb)
    | (go_at_call 26; refine (claims_k SS.out.1 SS.out.2).mono ?_; rintro e w3 ⟨A1, c1, rfl, hs, hb⟩; replace KK := Lib.hid ((KK.out.keep hb).add _ (stable_sl _ _ _ _ _) hs); clear hs hb SS)
    | (go_at_call 31; refine (settle_k SS.out.1 SS.out.2).mono ?_; rintro e w3 ⟨A2, c2, rfl, hs, hb⟩; replace KK := Lib.hid ((KK.out.keep hb).add _ (stable_sl _ _ _ _ _) hs); clear hs hb SS)
    | (go_at_call 38; refine (owed_k SS.out.1 SS.out.2).mono ?_; rintro e wA ⟨rfl, hb⟩; replace KK := Lib.hid (KK.out.keep hb); clear hb SS)
    | (refine wpList_store_all rfl 56 _ _ rfl wA.heap.size rfl _ rfl 56 _ (Has.new wA 56 _) (by kernel_rfl) rfl (by simp [Value.oneCell']) ?_; have bx := box_has (W := wA) #[.int .i64 0, .int .i64 0] #[.int .i64 53, .int .i64 60] 56; replace KK := Lib.hid ((KK.out.keep (box_below #[.int .i64 0, .int .i64 0] #[.int .i64 53, .int .i64 60] 56)).add _ (stable_has _ _ _) bx); clear bx)
    | (go_at_call 43; refine (trips_k SS.out.1 SS.out.2).mono ?_; rintro e w3 ⟨A3, c3, rfl, hs, hb⟩; replace KK := Lib.hid ((KK.out.keep hb).add _ (stable_sl _ _ _ _ _) hs); clear hs hb SS)
    | (go_at_call 47; refine (easter_k (SS.out.1.alloc _) (SS.out.2.alloc _) (Has.new _ 3 _)).mono ?_; rintro e w3 ⟨A4, c4, rfl, hs, hb⟩; replace KK := Lib.hid ((KK.out.keep (nextB (newB (Below.refl _ _) _) hb)).add _ (stable_sl _ _ _ _ _) hs); clear hs hb SS)
    | (go_at_call 56; refine (next_k (SS.out.1.alloc _) (SS.out.2.alloc _) (Has.new _ 3 _)).mono ?_; rintro e w3 ⟨A5, c5, rfl, hs, hb⟩; replace KK := Lib.hid ((KK.out.keep (nextB (newB (Below.refl _ _) _) hb)).add _ (stable_sl _ _ _ _ _) hs); clear hs hb SS)
    | (go_at_call 59; refine (book_k SS.out.1 SS.out.2).mono ?_; rintro e wB ⟨gr, g0, rc, ac, dc, c0, A, D, s1, s2, rfl, ho, q1, q2, hb⟩; have BO := Lib.hid ho; have Q1 := Lib.hid q1; have Q2 := Lib.hid q2; have BB := Lib.hid hb; have hgl := (spoil_facts ho).2.2.2.2; clear hb ho q1 q2 SS)
    | (go_at_call 62; refine (refBook_k (BO.out.keep (newB (Below.refl _ _) _)) Q1.out Q2.out).mono ?_; rintro e wC ⟨rfl, hb⟩; have BX := Lib.hid ((Has.new wB 80 _).after hb); replace BO := Lib.hid (BO.out.keep (nextB (newB (Below.refl _ _) _) hb)); replace BB := Lib.hid (nextB BB.out (nextB (newB (Below.refl _ _) _) hb)); obtain ⟨z1, z2, z3, z4, z5⟩ := spoil_facts BO.out; have cX := BX.out.cell; replace BX := Lib.hid (BX.out.far (p := ⟨g0, 1, none⟩) (show wB.heap.size ≠ g0 by omega) (.int .i64 2010)); replace BO := Lib.hid (book_spoil BO.out); replace BB := Lib.hid (setB BB.out (p := ⟨g0, 1, none⟩) z4 (.int .i64 2010)); clear hb)
    | (refine wpList_load_row rfl 80 _ rfl wB.heap.size rfl 80 _ (0, 0) _ BX.out Tryz.underlying80 rfl (by kernel_rfl) ?_)
    | (go_at_call 65; refine (mend_k BO.out Q1.out Q2.out).mono ?_; rintro e wD ⟨rfl, hb⟩; replace BB := Lib.hid (nextB BB.out hb); clear hb)
    | (refine wpList_store_all rfl 90 _ _ rfl wD.heap.size rfl _ rfl 90 _ (Has.new wD 90 _) (by kernel_rfl) rfl (by simp [Value.oneCell']) ?_; have FX := Lib.hid (box_has (W := wD) #[.int .i64 0, .int .i64 0, .int .i64 0, .int .i64 0] #[.int .i64 1, .int .i64 0, .int .i64 1, .int .i64 2000] 90); replace BB := Lib.hid (nextB BB.out (box_below #[.int .i64 0, .int .i64 0, .int .i64 0, .int .i64 0] #[.int .i64 1, .int .i64 0, .int .i64 1, .int .i64 2000] 90)))
    | (go_at_call 71; refine (read_k2 (HI.out.keep (nextB KK.out.below BB.out))).mono ?_; rintro e wE ⟨A6, A7, c6, c7, rfl, hp, hl, hb⟩; replace FX := Lib.hid (FX.out.after hb); replace BB := Lib.hid (nextB BB.out hb); replace KK := Lib.hid (KK.out.keep BB.out); have PS := Lib.hid (And.intro hp hl); clear hb hp hl)
    | (go_at_call 33; refine (sameEnds_k endsU A2 3 c2 #[.int .i64 80, .int .i64 0, .int .i64 106, .int .i64 0, .int .i64 0, .int .i64 53, .int .i64 26, .int .i64 27, .int .i64 0, .int .i64 14, .int .i64 16, .int .i64 10, .int .i64 6, .int .i64 0, .int .i64 0] (w := wE.alloc (.cells #[.slice A6 2 c6, .slice A7 1 c7] 25)) (wE.heap.size + 1) (by simp) (KK.out.now.1.1.1.1.2.keep (newB (Below.refl _ _) _)) rfl rfl (by omega)).mono ?_; rintro e wF ⟨rfl, hb⟩; replace KK := Lib.hid (KK.out.keep (nextB (newB (Below.refl _ _) _) hb)); replace FX := Lib.hid ((FX.out.alloc _).after hb); have FY := Lib.hid ((Has.new wE 25 #[.slice A6 2 c6, .slice A7 1 c7]).after hb); replace PS := Lib.hid (And.intro (PS.out.1.keep (nextB (newB (Below.refl _ _) _) hb)) (PS.out.2.keep (nextB (newB (Below.refl _ _) _) hb))); clear hb))
  go_at_call 29
  with_reducible refine (same_k [4800, 3200, 1000] A1 3 c1 #[.int .i64 4800, .int .i64 3200, .int .i64 1000] KK.out.now.1.1.1.1.1.2 rfl rfl (by decide)).mono ?_
  rintro e wG ⟨rfl, hb⟩
  replace KK := Lib.hid (KK.out.keep hb)
  replace FX := Lib.hid (FX.out.after hb)
  replace FY := Lib.hid (FY.out.after hb)
  replace PS := Lib.hid (And.intro (PS.out.1.keep hb) (PS.out.2.keep hb))
  have ca : wG.cell? ⟨wA.heap.size, 0, none⟩ = some (.int .i64 53) := KK.out.now.1.1.1.2.cell 0
  have cb : wG.cell? ⟨wA.heap.size, 1, none⟩ = some (.int .i64 60) := KK.out.now.1.1.1.2.cell 1
  clear hb
  go_wp2_with (first
    | (go_at_call 29; with_reducible refine (same_k [1] A3 1 c3 #[.int .i64 1] KK.out.now.1.1.2 rfl rfl (by decide)).mono ?_; rintro e wG ⟨rfl, hb⟩; replace KK := Lib.hid (KK.out.keep hb); replace FX := Lib.hid (FX.out.after hb); replace FY := Lib.hid (FY.out.after hb); replace PS := Lib.hid (And.intro (PS.out.1.keep hb) (PS.out.2.keep hb)); clear hb)
    | (go_at_call 29; with_reducible refine (same_k [0, 21, 20] A4 3 c4 #[.int .i64 0, .int .i64 21, .int .i64 20] KK.out.now.1.2 rfl rfl (by decide)).mono ?_; rintro e wG ⟨rfl, hb⟩; replace KK := Lib.hid (KK.out.keep hb); replace FX := Lib.hid (FX.out.after hb); replace FY := Lib.hid (FY.out.after hb); replace PS := Lib.hid (And.intro (PS.out.1.keep hb) (PS.out.2.keep hb)); clear hb))
  go_at_call 29
  with_reducible refine (same_k [0, 5, 10] A5 3 c5 #[.int .i64 0, .int .i64 5, .int .i64 10] KK.out.now.2 rfl rfl (by decide)).mono ?_
  rintro e wG ⟨rfl, hb⟩
  replace KK := Lib.hid (KK.out.keep hb)
  replace FX := Lib.hid (FX.out.after hb)
  replace FY := Lib.hid (FY.out.after hb)
  replace PS := Lib.hid (And.intro (PS.out.1.keep hb) (PS.out.2.keep hb))
  have x0 : wG.cell? ⟨wD.heap.size, 0, none⟩ = some (.int .i64 1) := FX.out.cell 0
  have x1 : wG.cell? ⟨wD.heap.size, 1, none⟩ = some (.int .i64 0) := FX.out.cell 1
  have x2 : wG.cell? ⟨wD.heap.size, 2, none⟩ = some (.int .i64 1) := FX.out.cell 2
  have x3 : wG.cell? ⟨wD.heap.size, 3, none⟩ = some (.int .i64 2000) := FX.out.cell 3
  have y0 : wG.cell? ⟨wE.heap.size, 0, none⟩ = some (.slice A6 2 c6) := FY.out.cell 0
  have y1 : wG.cell? ⟨wE.heap.size, 1, none⟩ = some (.slice A7 1 c7) := FY.out.cell 1
  clear hb
  go_wp2_with (first
    | (refine wpList_load_row rfl 56 _ rfl wA.heap.size rfl 56 _ (0, 0) _ KK.out.now.1.1.1.2 Tryz.underlying56 rfl (by kernel_rfl) ?_)
    | (refine wpList_load_row rfl 90 _ rfl wD.heap.size rfl 90 _ (0, 0) _ FX.out Tryz.underlying90 rfl (by kernel_rfl) ?_)
    | (refine wpList_load_row rfl 25 _ rfl wE.heap.size rfl 25 _ (0, 0) _ FY.out Tryz.underlying25 rfl (by kernel_rfl) ?_)
    | (go_at_call 72; refine (print_k2 PS.out.1 PS.out.2).mono ?_; rintro e wH ⟨rfl, hb⟩; replace KK := Lib.hid (KK.out.keep hb); clear hb))
  exact bodyPost_ret (results_tmp rfl _ _ _) rfl ⟨rfl, KK.out.below⟩
end Go.Proofs
