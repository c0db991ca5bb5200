/-
  The statement ShareWhich holds for every input: the law returns true and what came in reads as before.
-/
import Derived.Test.YtplhaohcmhepbaaGreatDoorP15
import Derived.Test.YtplhaohcmhepbaaGreatDoorP18
import Derived.Test.YtplhaohcmhepbaaGreatDoorP14
import Derived.Test.YtplhaohcmhepbaaGreatDoorP13
import Derived.Test.YtplhaohcmhepbaaGreatDoorP17
import Derived.Test.YtplhaohcmhepbaaGreatDoorRows
import Derived.Test.YtplhaohcmhepbaaGreatDoorTie
import Derived.Test.YtplhaohcmhepbaaGreatDoorCards
import Derived.Test.YtplhaohcmhepbaaGreatDoorChecked
import Derived.ProofKit
import Derived.OpenShut
import Derived.LaidMore
import Derived.Stop.Joined
import Derived.SevenTiedAt
import Derived.Carry
import Derived.Lay
namespace Go.Proofs
open Go.RowKit Go.Shelf
attribute [local go_sem ↓] Go.wp_at_zero Go.wp_at_succ

section
variable {P : Program} {w0 : World} {ops : Array Oper} {i : Nat} {S : List Spec} {o : Oper} {r : List Oper} {a : Act} {H : Hyps} {K : Act → Hyps → Prop}
theorem OblS.rowG (hg : Region.wanted o (yielded ops a.tmps) = true) (ty : TypeId) (x : Operand) (ho : o.op = .load ty x) (g : Nat) (hx : a.eval x = .pointer (some ⟨g, 0, none⟩)) (t : TypeId) (cs : Array Value) (d : TypeDesc)
    (hh : Has w0 g t cs) (hu : P.underlying ty = some d) (hd : (match d with | .struct _ | .array _ _ => true | _ => false) = true) (hi : (P.info? ty).map (·.size) = some cs.size)
    (h : OblS P ops w0 (i + 1) S r (a.put o.dst (.agg cs)) H K) : OblS P ops w0 i (.v (.agg cs) :: S) (o :: r) a H K := by
  refine ⟨fun w hB hH => .inl ⟨hg, ?_⟩, h⟩
  have hl := run_loadVar_row w g t ty cs (0, 0) d (hh.after hB) hu hd hi
  have hq : (execOp a.eval o).run P w = .ok (.value (.agg cs)) w := by
    unfold execOp
    simp only [ho, hx, Instr.loadAt, Instr.sureAddr, Sem.run_bind, Sem.run_pure, Result.andThen_ok, hl]
  unfold Oper.wp
  rw [hq]
  exact ⟨_, rfl, rfl, Below.refl _ _⟩
end
end Go.Proofs
namespace Go.Proofs
open Go.RowKit Go.Shelf
attribute [local go_sem ↓] Go.wp_at_zero Go.wp_at_succ

theorem Seas.endShare {ps : List Pe} {ls : List La} (h : Seas ps ls) {k : Nat} (hk : k < ps.length) : ∃ e, (endsF ps ls)[k]? = some e ∧ e.s = shareF ps ls k := by
  obtain ⟨x, hx, h1, _⟩ := h.endFacts hk
  refine ⟨_, endsG hk, ?_⟩
  split
  · exact h1
  · exact h1
theorem cellShare {W : World} {b o n k : Nat} {E : List En} {v : Int} (h : SlOf eE.f eE.sz W (some ⟨b, o, none⟩) n E) (hf : ∃ e, E[k]? = some e ∧ e.s = v) : W.cell? ⟨b, o + k * 5, none⟩ = some (.int .i64 v) := by
  obtain ⟨e, he, rfl⟩ := hf
  have := h.range eE_ok.len he 0 _ rfl
  have hz : eE.sz = 5 := rfl
  simpa [hz] using this
end Go.Proofs
namespace Go.Proofs
open Go.RowKit Go.Shelf
attribute [local go_sem ↓] Go.wp_at_zero Go.wp_at_succ

theorem trips_e (s : Sv) (p coins : Int) (hpn : s.pn ≤ 1000000) (hln : s.ln ≤ 1000000) (xs : List Int) (er : Int) (n : Nat) (he : tripsF s.ps s.ls p coins = (xs, er)) (hn : n = xs.length) (w : World) (hi : s.In w) :
    Calls Tryz.prog 43 #[s.val, .int .i64 p, .int .i64 coins] w fun e w' => ∃ A c, e = .returned (.tuple #[.slice A n c, .int .i64 er]) ∧ SlOf inC 1 w' A n xs ∧ Below w.heap.size w w' := by
  refine (Trips_c s p coins hpn hln w hi).mono ?_
  rintro e w' ⟨v, rfl, ho, hb⟩
  rw [he] at ho ⊢
  obtain ⟨A, c, rfl, hs, _⟩ := ho.sl
  subst hn
  exact ⟨A, c, rfl, hs, hb⟩
end Go.Proofs
namespace Go.Proofs

theorem inc_at {n : Nat} {xs : List Int} (h : incB n xs = true) {i : Nat} (hi : i < xs.length) : inB (xs.getD i 0) 0 ((n : Int) - 1) = true ∧ (i = 0 ∨ xs.getD (i - 1) 0 < xs.getD i 0) := by
  have := List.all_eq_true.1 h i (List.mem_range.2 hi)
  simp only [Bool.and_eq_true, Bool.or_eq_true, beq_iff_eq, decide_eq_true_eq] at this
  exact this
theorem inc_lt {n : Nat} {xs : List Int} (h : incB n xs = true) : ∀ j, j < xs.length → ∀ i, i < j → xs.getD i 0 < xs.getD j 0
  | 0, _, i, hi => absurd hi (by omega)
  | j + 1, hj, i, hi => by
    have h2 : xs.getD j 0 < xs.getD (j + 1) 0 := by
      rcases (inc_at h hj).2 with h0 | h0
      · omega
      · exact h0
    rcases Nat.lt_or_ge i j with h' | h'
    · have := inc_lt h j (by omega) i h'
      omega
    · have : i = j := by omega
      subst this
      exact h2
theorem inc_pw {n : Nat} {xs : List Int} (h : incB n xs = true) : xs.Pairwise (· < ·) := by
  rw [List.pairwise_iff_getElem]
  intro i j hi hj hij
  have := inc_lt h j hj i hij
  simpa [List.getD_eq_getElem?_getD, List.getElem?_eq_getElem hi, List.getElem?_eq_getElem hj] using this
theorem inc_mem {n : Nat} {xs : List Int} (h : incB n xs = true) : ∀ y ∈ xs, 0 ≤ y ∧ y < n := by
  intro y hy
  obtain ⟨i, hi, rfl⟩ := List.getElem_of_mem hy
  have := (inc_at h hi).1
  simp only [List.getD_eq_getElem?_getD, List.getElem?_eq_getElem hi, Option.getD_some, inB, decide_eq_true_eq] at this
  omega
theorem inc_sub {n : Nat} {xs : List Int} (h : incB n xs = true) : xs.Sublist (ints (List.range n)) := by
  have := incr_sublist n 0 xs (inc_pw h) (fun y hy => by have := inc_mem h y hy; omega)
  rwa [← List.range_eq_range'] at this
theorem sub_inc {n : Nat} {xs : List Int} (h : xs.Sublist (ints (List.range n))) : incB n xs = true := by
  refine incB_yes fun i hi => ?_
  have hp : xs.Pairwise (· < ·) := (ints_range_pw n).sublist h
  have hm := h.subset (List.getElem_mem hi)
  obtain ⟨j, hj, he⟩ := List.mem_map.1 hm
  have hj := List.mem_range.1 hj
  unfold incAt
  have e : xs.getD i 0 = (j : Int) := by rw [List.getD_eq_getElem?_getD, List.getElem?_eq_getElem hi]; exact he.symm
  rw [e]
  have h1 : inB (j : Int) 0 ((n : Int) - 1) = true := by simp only [inB, decide_eq_true_eq]; omega
  rw [h1, Bool.true_and, Bool.or_eq_true]
  rcases Nat.eq_zero_or_pos i with h0 | h0
  · left; simp [h0]
  · right
    have hi2 : i - 1 < xs.length := by omega
    rw [List.pairwise_iff_getElem] at hp
    have := hp (i - 1) i hi2 hi (by omega)
    rw [decide_eq_true_eq, ← e]
    simpa [List.getD_eq_getElem?_getD, List.getElem?_eq_getElem hi, List.getElem?_eq_getElem hi2] using this
theorem inc_nats {n : Nat} {xs : List Int} (h : incB n xs = true) : ints (nats xs) = xs ∧ (nats xs).Nodup ∧ ∀ t ∈ nats xs, t < n := by
  have hm := inc_mem h
  have h1 : ints (nats xs) = xs := by
    unfold ints nats
    rw [List.map_map]
    have : ∀ l : List Int, (∀ y ∈ l, 0 ≤ y) → l.map ((fun k : Nat => (k : Int)) ∘ Int.toNat) = l := by
      intro l hl
      induction l with
      | nil => rfl
      | cons a r ih =>
        rw [List.map_cons, ih (fun y hy => hl y (by simp [hy]))]
        have := hl a (by simp)
        simp only [Function.comp]
        rw [Int.toNat_of_nonneg this]
    exact this xs fun y hy => (hm y hy).1
  refine ⟨h1, ?_, ?_⟩
  · have hp := inc_pw h
    rw [← h1] at hp
    unfold ints at hp
    rw [List.pairwise_map] at hp
    exact hp.imp fun {a b} hab => by omega
  · intro t ht
    obtain ⟨y, hy, rfl⟩ := List.mem_map.1 ht
    have := hm y hy
    omega
/-- What Trips finds where somebody proposes trips. -/
theorem which_trips {ps : List Pe} {ls : List La} (hs : Seas ps ls) {k : Nat} (hk : k < ps.length) (hk0 : k ≠ 0) (hsr : sharerB ps ls (k : Int) = true) {xs : List Int} (h : incB ls.length xs = true) :
    ∃ t, tripsF ps ls k (shareF ps (takenL ls k (nats xs)) k) = (t, 0) ∧ incB ls.length t = true ∧ t.length ≤ xs.length ∧ t.length ≤ 6 ∧ (xs.length = t.length → befB xs t = false) ∧ shareF ps (takenL ls k (nats t)) k = shareF ps (takenL ls k (nats xs)) k := by
  have h6 := hs.few
  have h0 := ((hs.took hk hk0 (nats xs)).share k).1
  obtain ⟨s1, s2⟩ := trips_spec ls.length (givesB ps ls k (shareF ps (takenL ls k (nats xs)) k))
  have hg : givesB ps ls k (shareF ps (takenL ls k (nats xs)) k) xs = true := by unfold givesB; simp
  have hx := inc_sub h
  have hT : tripsF ps ls k (shareF ps (takenL ls k (nats xs)) k) = tripsN (bestL ltLen (tripsL ps ls k (shareF ps (takenL ls k (nats xs)) k))) := by
    unfold tripsF
    rw [hsr, Int.toNat_natCast]
    have : ¬ shareF ps (takenL ls k (nats xs)) k < 0 := by omega
    simp [hk0, this]
  rw [hT]
  unfold tripsL
  cases hb : bestL ltLen ((listsL (ints (List.range ls.length))).filter (givesB ps ls k (shareF ps (takenL ls k (nats xs)) k))) with
  | none => have := s1 hb xs hx; rw [hg] at this; cases this
  | some t =>
    obtain ⟨t1, t2, t3⟩ := s2 t hb
    obtain ⟨a1, a2⟩ := t3 xs hx hg
    refine ⟨t, rfl, sub_inc t1, a1, ?_, ?_, ?_⟩
    · have := t1.length_le
      simp only [ints, List.length_map, List.length_range] at this
      omega
    · intro he
      rcases a2 he with e | e
      · rw [e]; exact bef_irrefl t
      · exact bef_asymm _ _ e
    · unfold givesB at t2
      exact eq_of_beq t2
end Go.Proofs
namespace Go.Proofs
open Go.RowKit Go.Shelf
attribute [local go_sem ↓] Go.wp_at_zero Go.wp_at_succ

set_option maxHeartbeats 8000000 in
set_option maxRecDepth 20000 in
theorem shareWhich_walk (s : Sv) (p : Int) (A : Option Addr) (n c : Nat) (xs : List Int) (w : World) (hi : s.In w) (hA : SlOf inC 1 w A n xs) (hI : ItoaAll w) : Calls Tryz.prog 11 #[s.val, .int .i64 p, .slice A n c] w fun e w' => e = .returned (.bool true) ∧ Below w.heap.size w w' := by
  have HSh := Lib.hid fun (W : World) => short_c s W
  have HK := Lib.hid fun (W : World) (hb : Below w.heap.size w W) => knownLaw_c W (hI.keep hb)
  cases h0 : shortB s
  · rw [h0] at HSh
    clear h0 hi hI hA
    obtain ⟨pA, lA, pn, pc, ln, lc, ps, ls⟩ := s
    simp only [Sv.val] at *
    have EE := Lib.hid (SBx.start w #[.slice pA pn pc, .slice lA ln lc])
    have cb := EE.out.box.cell
    go_enter Tryz.func11, Tryz.ntmps11
    go_wp2_with (first
      | (refine wpList_load_row rfl 25 _ rfl w.heap.size rfl 25 _ (0, 0) _ EE.out.box Tryz.underlying25 rfl (by kernel_rfl) ?_)
      | (go_at_call 23; refine (HSh.out _).mono ?_; rintro e w1 ⟨rfl, hb⟩; replace EE := Lib.hid (EE.out.keep hb); have cb := EE.out.box.cell; (try replace S1 := Lib.hid (S1.out.keep hb)); (try replace S2 := Lib.hid (S2.out.keep hb)); (try replace L1 := Lib.hid (L1.out.keep hb)); (try replace L2 := Lib.hid (L2.out.keep hb)); (try replace ST := Lib.hid (ST.out.keep hb));  clear hb)
      | (go_at_call 27; refine (HSe.out _ EE.out.below).mono ?_; rintro e w4 ⟨rfl, hb⟩; replace EE := Lib.hid (EE.out.keep hb); have cb := EE.out.box.cell; (try replace S1 := Lib.hid (S1.out.keep hb)); (try replace S2 := Lib.hid (S2.out.keep hb)); (try replace L1 := Lib.hid (L1.out.keep hb)); (try replace L2 := Lib.hid (L2.out.keep hb)); (try replace ST := Lib.hid (ST.out.keep hb));  clear hb)
      | (go_at_call 35; refine (HPe.out _).mono ?_; rintro e w5 ⟨rfl, hb⟩; replace EE := Lib.hid (EE.out.keep hb); have cb := EE.out.box.cell; (try replace S1 := Lib.hid (S1.out.keep hb)); (try replace S2 := Lib.hid (S2.out.keep hb)); (try replace L1 := Lib.hid (L1.out.keep hb)); (try replace L2 := Lib.hid (L2.out.keep hb)); (try replace ST := Lib.hid (ST.out.keep hb));  clear hb)
      | (go_at_call 45; refine (HIs.out _ EE.out.below).mono ?_; rintro e w3 ⟨rfl, hb⟩; replace EE := Lib.hid (EE.out.keep hb); have cb := EE.out.box.cell; (try replace S1 := Lib.hid (S1.out.keep hb)); (try replace S2 := Lib.hid (S2.out.keep hb)); (try replace L1 := Lib.hid (L1.out.keep hb)); (try replace L2 := Lib.hid (L2.out.keep hb)); (try replace ST := Lib.hid (ST.out.keep hb));  clear hb)
      | (go_at_call 24; refine (HK.out _ EE.out.below).mono ?_; rintro e w8 ⟨rfl, hb⟩; replace EE := Lib.hid (EE.out.keep hb); clear hb))
    exact bodyPost_ret (results_tmp rfl _ _ _) rfl ⟨rfl, EE.out.below⟩
  · have hsm : s.pn ≤ 9 ∧ s.ln ≤ 9 := by simpa [shortB] using h0
    rw [h0] at HSh
    by_cases h9 : 9 < n
    · have h9' : (9 : Int) < (n : Int) := by omega
      clear h0 hi hI hA hsm
      obtain ⟨pA, lA, pn, pc, ln, lc, ps, ls⟩ := s
      simp only [Sv.val] at *
      have EE := Lib.hid (SBx.start w #[.slice pA pn pc, .slice lA ln lc])
      have cb := EE.out.box.cell
      go_enter Tryz.func11, Tryz.ntmps11
      go_wp2_with (first
        | (refine wpList_load_row rfl 25 _ rfl w.heap.size rfl 25 _ (0, 0) _ EE.out.box Tryz.underlying25 rfl (by kernel_rfl) ?_)
        | (go_at_call 23; refine (HSh.out _).mono ?_; rintro e w1 ⟨rfl, hb⟩; replace EE := Lib.hid (EE.out.keep hb); have cb := EE.out.box.cell; (try replace S1 := Lib.hid (S1.out.keep hb)); (try replace S2 := Lib.hid (S2.out.keep hb)); (try replace L1 := Lib.hid (L1.out.keep hb)); (try replace L2 := Lib.hid (L2.out.keep hb)); (try replace ST := Lib.hid (ST.out.keep hb));  clear hb)
        | (go_at_call 27; refine (HSe.out _ EE.out.below).mono ?_; rintro e w4 ⟨rfl, hb⟩; replace EE := Lib.hid (EE.out.keep hb); have cb := EE.out.box.cell; (try replace S1 := Lib.hid (S1.out.keep hb)); (try replace S2 := Lib.hid (S2.out.keep hb)); (try replace L1 := Lib.hid (L1.out.keep hb)); (try replace L2 := Lib.hid (L2.out.keep hb)); (try replace ST := Lib.hid (ST.out.keep hb));  clear hb)
        | (go_at_call 35; refine (HPe.out _).mono ?_; rintro e w5 ⟨rfl, hb⟩; replace EE := Lib.hid (EE.out.keep hb); have cb := EE.out.box.cell; (try replace S1 := Lib.hid (S1.out.keep hb)); (try replace S2 := Lib.hid (S2.out.keep hb)); (try replace L1 := Lib.hid (L1.out.keep hb)); (try replace L2 := Lib.hid (L2.out.keep hb)); (try replace ST := Lib.hid (ST.out.keep hb));  clear hb)
        | (go_at_call 45; refine (HIs.out _ EE.out.below).mono ?_; rintro e w3 ⟨rfl, hb⟩; replace EE := Lib.hid (EE.out.keep hb); have cb := EE.out.box.cell; (try replace S1 := Lib.hid (S1.out.keep hb)); (try replace S2 := Lib.hid (S2.out.keep hb)); (try replace L1 := Lib.hid (L1.out.keep hb)); (try replace L2 := Lib.hid (L2.out.keep hb)); (try replace ST := Lib.hid (ST.out.keep hb));  clear hb)
        | (go_at_call 24; refine (HK.out _ EE.out.below).mono ?_; rintro e w8 ⟨rfl, hb⟩; replace EE := Lib.hid (EE.out.keep hb); clear hb))
      exact bodyPost_ret (results_tmp rfl _ _ _) rfl ⟨rfl, EE.out.below⟩
    · have h9' : ¬ (9 : Int) < (n : Int) := by omega
      have hxn : xs.length = n := hA.1
      have HSe := Lib.hid fun (W : World) (hb : Below w.heap.size w W) => refSeason_c s (by omega) (by omega) W (hi.keep hb)
      have HPe := Lib.hid fun (W : World) => person_c s p (by omega) W
      have HIs := Lib.hid fun (W : World) (hb : Below w.heap.size w W) => isTrips_c s A n c xs (by omega) (by omega) W (hi.keep hb) (hA.keep hb)
      cases h1 : seasonB s.ps s.ls
      · rw [h1] at HSe
        clear h0 h1 hi hI hA hsm HPe HIs hxn
        obtain ⟨pA, lA, pn, pc, ln, lc, ps, ls⟩ := s
        simp only [Sv.val] at *
        have EE := Lib.hid (SBx.start w #[.slice pA pn pc, .slice lA ln lc])
        have cb := EE.out.box.cell
        go_enter Tryz.func11, Tryz.ntmps11
        go_wp2_with (first
          | (refine wpList_load_row rfl 25 _ rfl w.heap.size rfl 25 _ (0, 0) _ EE.out.box Tryz.underlying25 rfl (by kernel_rfl) ?_)
          | (go_at_call 23; refine (HSh.out _).mono ?_; rintro e w1 ⟨rfl, hb⟩; replace EE := Lib.hid (EE.out.keep hb); have cb := EE.out.box.cell; (try replace S1 := Lib.hid (S1.out.keep hb)); (try replace S2 := Lib.hid (S2.out.keep hb)); (try replace L1 := Lib.hid (L1.out.keep hb)); (try replace L2 := Lib.hid (L2.out.keep hb)); (try replace ST := Lib.hid (ST.out.keep hb));  clear hb)
          | (go_at_call 27; refine (HSe.out _ EE.out.below).mono ?_; rintro e w4 ⟨rfl, hb⟩; replace EE := Lib.hid (EE.out.keep hb); have cb := EE.out.box.cell; (try replace S1 := Lib.hid (S1.out.keep hb)); (try replace S2 := Lib.hid (S2.out.keep hb)); (try replace L1 := Lib.hid (L1.out.keep hb)); (try replace L2 := Lib.hid (L2.out.keep hb)); (try replace ST := Lib.hid (ST.out.keep hb));  clear hb)
          | (go_at_call 35; refine (HPe.out _).mono ?_; rintro e w5 ⟨rfl, hb⟩; replace EE := Lib.hid (EE.out.keep hb); have cb := EE.out.box.cell; (try replace S1 := Lib.hid (S1.out.keep hb)); (try replace S2 := Lib.hid (S2.out.keep hb)); (try replace L1 := Lib.hid (L1.out.keep hb)); (try replace L2 := Lib.hid (L2.out.keep hb)); (try replace ST := Lib.hid (ST.out.keep hb));  clear hb)
          | (go_at_call 45; refine (HIs.out _ EE.out.below).mono ?_; rintro e w3 ⟨rfl, hb⟩; replace EE := Lib.hid (EE.out.keep hb); have cb := EE.out.box.cell; (try replace S1 := Lib.hid (S1.out.keep hb)); (try replace S2 := Lib.hid (S2.out.keep hb)); (try replace L1 := Lib.hid (L1.out.keep hb)); (try replace L2 := Lib.hid (L2.out.keep hb)); (try replace ST := Lib.hid (ST.out.keep hb));  clear hb)
          | (go_at_call 24; refine (HK.out _ EE.out.below).mono ?_; rintro e w8 ⟨rfl, hb⟩; replace EE := Lib.hid (EE.out.keep hb); clear hb))
        exact bodyPost_ret (results_tmp rfl _ _ _) rfl ⟨rfl, EE.out.below⟩
      · have hs := (seas_iff _ _).1 h1
        have hpl : s.ps.length = s.pn := hi.ps.1
        have hll : s.ls.length = s.ln := hi.ls.1
        have hp6 : s.pn ≤ 6 := by rw [← hpl]; exact hs.six
        have hl6 : s.ln ≤ 6 := by rw [← hll]; exact hs.few
        have hp2 : 2 ≤ s.pn := by rw [← hpl]; exact hs.two
        rw [h1] at HSe
        cases h2 : inB p 0 ((s.pn : Int) - 1)
        · rw [h2] at HPe
          clear h0 h1 h2 hi hI hA hsm hs hpl hll HIs hxn
          obtain ⟨pA, lA, pn, pc, ln, lc, ps, ls⟩ := s
          simp only [Sv.val] at *
          have EE := Lib.hid (SBx.start w #[.slice pA pn pc, .slice lA ln lc])
          have cb := EE.out.box.cell
          go_enter Tryz.func11, Tryz.ntmps11
          go_wp2_with (first
            | (refine wpList_load_row rfl 25 _ rfl w.heap.size rfl 25 _ (0, 0) _ EE.out.box Tryz.underlying25 rfl (by kernel_rfl) ?_)
            | (go_at_call 23; refine (HSh.out _).mono ?_; rintro e w1 ⟨rfl, hb⟩; replace EE := Lib.hid (EE.out.keep hb); have cb := EE.out.box.cell; (try replace S1 := Lib.hid (S1.out.keep hb)); (try replace S2 := Lib.hid (S2.out.keep hb)); (try replace L1 := Lib.hid (L1.out.keep hb)); (try replace L2 := Lib.hid (L2.out.keep hb)); (try replace ST := Lib.hid (ST.out.keep hb));  clear hb)
            | (go_at_call 27; refine (HSe.out _ EE.out.below).mono ?_; rintro e w4 ⟨rfl, hb⟩; replace EE := Lib.hid (EE.out.keep hb); have cb := EE.out.box.cell; (try replace S1 := Lib.hid (S1.out.keep hb)); (try replace S2 := Lib.hid (S2.out.keep hb)); (try replace L1 := Lib.hid (L1.out.keep hb)); (try replace L2 := Lib.hid (L2.out.keep hb)); (try replace ST := Lib.hid (ST.out.keep hb));  clear hb)
            | (go_at_call 35; refine (HPe.out _).mono ?_; rintro e w5 ⟨rfl, hb⟩; replace EE := Lib.hid (EE.out.keep hb); have cb := EE.out.box.cell; (try replace S1 := Lib.hid (S1.out.keep hb)); (try replace S2 := Lib.hid (S2.out.keep hb)); (try replace L1 := Lib.hid (L1.out.keep hb)); (try replace L2 := Lib.hid (L2.out.keep hb)); (try replace ST := Lib.hid (ST.out.keep hb));  clear hb)
            | (go_at_call 45; refine (HIs.out _ EE.out.below).mono ?_; rintro e w3 ⟨rfl, hb⟩; replace EE := Lib.hid (EE.out.keep hb); have cb := EE.out.box.cell; (try replace S1 := Lib.hid (S1.out.keep hb)); (try replace S2 := Lib.hid (S2.out.keep hb)); (try replace L1 := Lib.hid (L1.out.keep hb)); (try replace L2 := Lib.hid (L2.out.keep hb)); (try replace ST := Lib.hid (ST.out.keep hb));  clear hb)
            | (go_at_call 24; refine (HK.out _ EE.out.below).mono ?_; rintro e w8 ⟨rfl, hb⟩; replace EE := Lib.hid (EE.out.keep hb); clear hb))
          exact bodyPost_ret (results_tmp rfl _ _ _) rfl ⟨rfl, EE.out.below⟩
        · have hpb : 0 ≤ p ∧ p ≤ (s.pn : Int) - 1 := by simpa [inB] using h2
          rw [h2] at HPe
          by_cases hp0 : p = 0
          · subst hp0
            clear h0 h1 h2 hi hI hA hsm hs hpl hll hpb HIs hxn
            obtain ⟨pA, lA, pn, pc, ln, lc, ps, ls⟩ := s
            simp only [Sv.val] at *
            have EE := Lib.hid (SBx.start w #[.slice pA pn pc, .slice lA ln lc])
            have cb := EE.out.box.cell
            go_enter Tryz.func11, Tryz.ntmps11
            go_wp2_with (first
              | (refine wpList_load_row rfl 25 _ rfl w.heap.size rfl 25 _ (0, 0) _ EE.out.box Tryz.underlying25 rfl (by kernel_rfl) ?_)
              | (go_at_call 23; refine (HSh.out _).mono ?_; rintro e w1 ⟨rfl, hb⟩; replace EE := Lib.hid (EE.out.keep hb); have cb := EE.out.box.cell; (try replace S1 := Lib.hid (S1.out.keep hb)); (try replace S2 := Lib.hid (S2.out.keep hb)); (try replace L1 := Lib.hid (L1.out.keep hb)); (try replace L2 := Lib.hid (L2.out.keep hb)); (try replace ST := Lib.hid (ST.out.keep hb));  clear hb)
              | (go_at_call 27; refine (HSe.out _ EE.out.below).mono ?_; rintro e w4 ⟨rfl, hb⟩; replace EE := Lib.hid (EE.out.keep hb); have cb := EE.out.box.cell; (try replace S1 := Lib.hid (S1.out.keep hb)); (try replace S2 := Lib.hid (S2.out.keep hb)); (try replace L1 := Lib.hid (L1.out.keep hb)); (try replace L2 := Lib.hid (L2.out.keep hb)); (try replace ST := Lib.hid (ST.out.keep hb));  clear hb)
              | (go_at_call 35; refine (HPe.out _).mono ?_; rintro e w5 ⟨rfl, hb⟩; replace EE := Lib.hid (EE.out.keep hb); have cb := EE.out.box.cell; (try replace S1 := Lib.hid (S1.out.keep hb)); (try replace S2 := Lib.hid (S2.out.keep hb)); (try replace L1 := Lib.hid (L1.out.keep hb)); (try replace L2 := Lib.hid (L2.out.keep hb)); (try replace ST := Lib.hid (ST.out.keep hb));  clear hb)
              | (go_at_call 45; refine (HIs.out _ EE.out.below).mono ?_; rintro e w3 ⟨rfl, hb⟩; replace EE := Lib.hid (EE.out.keep hb); have cb := EE.out.box.cell; (try replace S1 := Lib.hid (S1.out.keep hb)); (try replace S2 := Lib.hid (S2.out.keep hb)); (try replace L1 := Lib.hid (L1.out.keep hb)); (try replace L2 := Lib.hid (L2.out.keep hb)); (try replace ST := Lib.hid (ST.out.keep hb));  clear hb)
              | (go_at_call 24; refine (HK.out _ EE.out.below).mono ?_; rintro e w8 ⟨rfl, hb⟩; replace EE := Lib.hid (EE.out.keep hb); clear hb))
            exact bodyPost_ret (results_tmp rfl _ _ _) rfl ⟨rfl, EE.out.below⟩
          · obtain ⟨k, rfl⟩ : ∃ k : Nat, p = k := ⟨p.toNat, by omega⟩
            have hk : k < s.pn := by omega
            have hk0 : ¬ k = 0 := by omega
            have e0 : ((k : Int) == 0) = false := by rw [beq_eq_false_iff_ne]; exact hp0
            have hkl : k < s.ps.length := by omega
            have hx := List.getElem?_eq_getElem hkl
            obtain ⟨x, hxx⟩ : ∃ x, x = s.ps[k] := ⟨_, rfl⟩
            rw [← hxx] at hx
            have hgx : s.ps.getD k ⟨0, 0, 0⟩ = x := by rw [List.getD_eq_getElem?_getD, hx]; rfl
            have hpe := hs.pe x (List.mem_of_getElem? hx)
            obtain ⟨pb, po, hpa⟩ := hi.ps.addr (by omega)
            have PF := Lib.hid fun (W : World) (hb : Below w.heap.size w W) => (show W.cell? ⟨pb, po + k * 3 + 2, none⟩ = some (.int .i64 x.f) from by
              have h := hi.ps.keep hb
              rw [hpa] at h
              exact h.range Pe.cs_len hx 2 _ rfl)
            by_cases hf : x.f = 2
            · rw [hf] at PF
              clear h0 h1 h2 hi hI hA hsm hs hpl hll hx hxx hgx hkl hpb hpe HIs hxn
              obtain ⟨pA, lA, pn, pc, ln, lc, ps, ls⟩ := s
              simp only [Sv.val] at *
              subst hpa
              have EE := Lib.hid (SBx.start w #[.slice (some ⟨pb, po, none⟩) pn pc, .slice lA ln lc])
              have cb := EE.out.box.cell
              go_enter Tryz.func11, Tryz.ntmps11
              go_wp2_with (first
                | (refine wpList_load_row rfl 25 _ rfl w.heap.size rfl 25 _ (0, 0) _ EE.out.box Tryz.underlying25 rfl (by kernel_rfl) ?_)
                | (go_at_call 23; refine (HSh.out _).mono ?_; rintro e w1 ⟨rfl, hb⟩; replace EE := Lib.hid (EE.out.keep hb); have cb := EE.out.box.cell; (try replace S1 := Lib.hid (S1.out.keep hb)); (try replace S2 := Lib.hid (S2.out.keep hb)); (try replace L1 := Lib.hid (L1.out.keep hb)); (try replace L2 := Lib.hid (L2.out.keep hb)); (try replace ST := Lib.hid (ST.out.keep hb)); have pf := PF.out _ EE.out.below; clear hb)
                | (go_at_call 27; refine (HSe.out _ EE.out.below).mono ?_; rintro e w4 ⟨rfl, hb⟩; replace EE := Lib.hid (EE.out.keep hb); have cb := EE.out.box.cell; (try replace S1 := Lib.hid (S1.out.keep hb)); (try replace S2 := Lib.hid (S2.out.keep hb)); (try replace L1 := Lib.hid (L1.out.keep hb)); (try replace L2 := Lib.hid (L2.out.keep hb)); (try replace ST := Lib.hid (ST.out.keep hb)); have pf := PF.out _ EE.out.below; clear hb)
                | (go_at_call 35; refine (HPe.out _).mono ?_; rintro e w5 ⟨rfl, hb⟩; replace EE := Lib.hid (EE.out.keep hb); have cb := EE.out.box.cell; (try replace S1 := Lib.hid (S1.out.keep hb)); (try replace S2 := Lib.hid (S2.out.keep hb)); (try replace L1 := Lib.hid (L1.out.keep hb)); (try replace L2 := Lib.hid (L2.out.keep hb)); (try replace ST := Lib.hid (ST.out.keep hb)); have pf := PF.out _ EE.out.below; clear hb)
                | (go_at_call 45; refine (HIs.out _ EE.out.below).mono ?_; rintro e w3 ⟨rfl, hb⟩; replace EE := Lib.hid (EE.out.keep hb); have cb := EE.out.box.cell; (try replace S1 := Lib.hid (S1.out.keep hb)); (try replace S2 := Lib.hid (S2.out.keep hb)); (try replace L1 := Lib.hid (L1.out.keep hb)); (try replace L2 := Lib.hid (L2.out.keep hb)); (try replace ST := Lib.hid (ST.out.keep hb)); have pf := PF.out _ EE.out.below; clear hb)
                | (go_at_call 24; refine (HK.out _ EE.out.below).mono ?_; rintro e w8 ⟨rfl, hb⟩; replace EE := Lib.hid (EE.out.keep hb); clear hb))
              exact bodyPost_ret (results_tmp rfl _ _ _) rfl ⟨rfl, EE.out.below⟩
            · have hf2 : (x.f == 2) = false := by simp [hf]
              have hsh : shB x.f = true := by
                have : x.f = 1 ∨ x.f = 3 := by omega
                rcases this with h | h <;> rw [h] <;> rfl
              cases h3 : incB s.ln xs
              · rw [h3] at HIs
                generalize x.f = xf at *
                clear h0 h1 h2 h3 hi hI hA hsm hs hpl hll hx hxx hgx hkl hpb hpe hf hsh hxn
                obtain ⟨pA, lA, pn, pc, ln, lc, ps, ls⟩ := s
                simp only [Sv.val] at *
                subst hpa
                have EE := Lib.hid (SBx.start w #[.slice (some ⟨pb, po, none⟩) pn pc, .slice lA ln lc])
                have cb := EE.out.box.cell
                go_enter Tryz.func11, Tryz.ntmps11
                go_wp2_with (first
                  | (refine wpList_load_row rfl 25 _ rfl w.heap.size rfl 25 _ (0, 0) _ EE.out.box Tryz.underlying25 rfl (by kernel_rfl) ?_)
                  | (go_at_call 23; refine (HSh.out _).mono ?_; rintro e w1 ⟨rfl, hb⟩; replace EE := Lib.hid (EE.out.keep hb); have cb := EE.out.box.cell; (try replace S1 := Lib.hid (S1.out.keep hb)); (try replace S2 := Lib.hid (S2.out.keep hb)); (try replace L1 := Lib.hid (L1.out.keep hb)); (try replace L2 := Lib.hid (L2.out.keep hb)); (try replace ST := Lib.hid (ST.out.keep hb)); have pf := PF.out _ EE.out.below; clear hb)
                  | (go_at_call 27; refine (HSe.out _ EE.out.below).mono ?_; rintro e w4 ⟨rfl, hb⟩; replace EE := Lib.hid (EE.out.keep hb); have cb := EE.out.box.cell; (try replace S1 := Lib.hid (S1.out.keep hb)); (try replace S2 := Lib.hid (S2.out.keep hb)); (try replace L1 := Lib.hid (L1.out.keep hb)); (try replace L2 := Lib.hid (L2.out.keep hb)); (try replace ST := Lib.hid (ST.out.keep hb)); have pf := PF.out _ EE.out.below; clear hb)
                  | (go_at_call 35; refine (HPe.out _).mono ?_; rintro e w5 ⟨rfl, hb⟩; replace EE := Lib.hid (EE.out.keep hb); have cb := EE.out.box.cell; (try replace S1 := Lib.hid (S1.out.keep hb)); (try replace S2 := Lib.hid (S2.out.keep hb)); (try replace L1 := Lib.hid (L1.out.keep hb)); (try replace L2 := Lib.hid (L2.out.keep hb)); (try replace ST := Lib.hid (ST.out.keep hb)); have pf := PF.out _ EE.out.below; clear hb)
                  | (go_at_call 45; refine (HIs.out _ EE.out.below).mono ?_; rintro e w3 ⟨rfl, hb⟩; replace EE := Lib.hid (EE.out.keep hb); have cb := EE.out.box.cell; (try replace S1 := Lib.hid (S1.out.keep hb)); (try replace S2 := Lib.hid (S2.out.keep hb)); (try replace L1 := Lib.hid (L1.out.keep hb)); (try replace L2 := Lib.hid (L2.out.keep hb)); (try replace ST := Lib.hid (ST.out.keep hb)); have pf := PF.out _ EE.out.below; clear hb)
                  | (go_at_call 24; refine (HK.out _ EE.out.below).mono ?_; rintro e w8 ⟨rfl, hb⟩; replace EE := Lib.hid (EE.out.keep hb); clear hb))
                exact bodyPost_ret (results_tmp rfl _ _ _) rfl ⟨rfl, EE.out.below⟩
              · have hsr : sharerB s.ps s.ls (k : Int) = true := by
                  unfold sharerB
                  rw [h1, Int.toNat_natCast, hgx, hsh, hpl, h2]; rfl
                obtain ⟨t, ht1, ht2, ht3, ht4, ht5, ht6⟩ := which_trips hs hkl hk0 hsr (xs := xs) (by rw [hll]; exact h3)
                obtain ⟨x1, x2, x3⟩ := inc_nats h3
                rw [hll] at ht2
                obtain ⟨y1, y2, y3⟩ := inc_nats ht2
                rw [hxn] at ht3 ht5
                obtain ⟨m, hm⟩ : ∃ m, m = t.length := ⟨_, rfl⟩
                rw [← hm] at ht3 ht4 ht5
                have HTk := Lib.hid fun (W : World) (hb : Below w.heap.size w W) => refTook_c s hs k hk hk0 A n c (nats xs) x2 x3 (by omega) W (hi.keep hb) (by rw [x1]; exact hA.keep hb)
                have HTk2 := Lib.hid fun (A2 : Option Addr) (c2 : Nat) (W : World) (hb : Below w.heap.size w W) (hx : SlOf inC 1 W A2 m t) => refTook_c s hs k hk hk0 A2 m c2 (nats t) y2 y3 (by omega) W (hi.keep hb) (by rw [y1]; exact hx)
                have g1 := hs.took hkl hk0 (nats xs)
                have g2 := hs.took hkl hk0 (nats t)
                have HS1 := Lib.hid fun (lA' : Option Addr) (lc' : Nat) (W : World) (hb : Below w.heap.size w W) (hsl : SlOf La.cs 3 W lA' s.ln (takenL s.ls k (nats xs))) => (show Calls Tryz.prog 31 #[.agg #[.slice s.pA s.pn s.pc, .slice lA' s.ln lc']] W fun e w' => ∃ v, e = .returned (.tuple #[v, .int .i64 (boxF s.ps (takenL s.ls k (nats xs))), .int .i64 0]) ∧ Own eE W.heap.size v (endsF s.ps (takenL s.ls k (nats xs))) w' ∧ Below W.heap.size W w' from settle_ok ⟨s.pA, lA', s.pn, s.pc, s.ln, lc', s.ps, takenL s.ls k (nats xs)⟩ g1 W ⟨(hi.keep hb).ps, hsl⟩)
                have HS2 := Lib.hid fun (lA' : Option Addr) (lc' : Nat) (W : World) (hb : Below w.heap.size w W) (hsl : SlOf La.cs 3 W lA' s.ln (takenL s.ls k (nats t))) => (show Calls Tryz.prog 31 #[.agg #[.slice s.pA s.pn s.pc, .slice lA' s.ln lc']] W fun e w' => ∃ v, e = .returned (.tuple #[v, .int .i64 (boxF s.ps (takenL s.ls k (nats t))), .int .i64 0]) ∧ Own eE W.heap.size v (endsF s.ps (takenL s.ls k (nats t))) w' ∧ Below W.heap.size W w' from settle_ok ⟨s.pA, lA', s.pn, s.pc, s.ln, lc', s.ps, takenL s.ls k (nats t)⟩ g2 W ⟨(hi.keep hb).ps, hsl⟩)
                have HE1 := Lib.hid (show (endsF s.ps (takenL s.ls k (nats xs))).length = s.pn by rw [endsFLen, hpl])
                have HE2 := Lib.hid (show (endsF s.ps (takenL s.ls k (nats t))).length = s.pn by rw [endsFLen, hpl])
                have HF1 := Lib.hid (g1.endShare hkl)
                have HF2 := Lib.hid (g2.endShare hkl)
                have hq0 := (g1.share k).1
                have HTr := Lib.hid fun (W : World) (hb : Below w.heap.size w W) => trips_e s k (shareF s.ps (takenL s.ls k (nats xs)) k) (by omega) (by omega) t 0 m ht1 hm W (hi.keep hb)
                have HI2 := Lib.hid fun (A2 : Option Addr) (c2 : Nat) (W : World) (hb : Below w.heap.size w W) (hx : SlOf inC 1 W A2 m t) => isTrips_c s A2 m c2 t (by omega) (by omega) W (hi.keep hb) hx
                rw [ht2] at HI2
                rw [ht6] at HF2
                rw [h3] at HIs
                have hmn : ¬ (n : Int) < (m : Int) := by omega
                have HB4 := Lib.hid fun (he : n = m) (A2 : Option Addr) (c2 : Nat) (W : World) (hb : Below w.heap.size w W) (hy : SlOf inC 1 W A2 m t) => (show Calls Tryz.prog 46 #[.slice A n c, .slice A2 m c2] W fun e w' => e = .returned (.bool false) ∧ Below W.heap.size W w' from by
                  rw [← ht5 he]; exact before_c A A2 n m c c2 xs t (by omega) W (hA.keep hb) hy)
                generalize shareF s.ps (takenL s.ls k (nats xs)) k = sh at *
                generalize endsF s.ps (takenL s.ls k (nats xs)) = EL1 at *
                generalize endsF s.ps (takenL s.ls k (nats t)) = EL2 at *
                generalize boxF s.ps (takenL s.ls k (nats xs)) = BX1 at *
                generalize boxF s.ps (takenL s.ls k (nats t)) = BX2 at *
                generalize takenL s.ls k (nats xs) = T1 at *
                generalize takenL s.ls k (nats t) = T2 at *
                have hq : ¬ sh < 0 := by omega
                generalize x.f = xf at *
                clear h0 h1 h2 h3 hi hI hA hsm hs hpl hll hx hxx hgx hkl hpb hpe hf hsh hxn hsr ht1 ht2 ht3 ht5 ht6 x1 x2 x3 y1 y2 y3 hm g1 g2 hq0
                obtain ⟨pA, lA, pn, pc, ln, lc, ps, ls⟩ := s
                simp only [Sv.val] at *
                subst hpa
                have EE := Lib.hid (SBx.start w #[.slice (some ⟨pb, po, none⟩) pn pc, .slice lA ln lc])
                have cb := EE.out.box.cell
                go_enter Tryz.func11, Tryz.ntmps11
                go_wp2_with (first
                  | (refine wpList_load_row rfl 25 _ rfl w.heap.size rfl 25 _ (0, 0) _ EE.out.box Tryz.underlying25 rfl (by kernel_rfl) ?_)
                  | (go_at_call 23; refine (HSh.out _).mono ?_; rintro e w1 ⟨rfl, hb⟩; replace EE := Lib.hid (EE.out.keep hb); have cb := EE.out.box.cell; (try replace S1 := Lib.hid (S1.out.keep hb)); (try replace S2 := Lib.hid (S2.out.keep hb)); (try replace L1 := Lib.hid (L1.out.keep hb)); (try replace L2 := Lib.hid (L2.out.keep hb)); (try replace ST := Lib.hid (ST.out.keep hb)); have pf := PF.out _ EE.out.below; clear hb)
                  | (go_at_call 27; refine (HSe.out _ EE.out.below).mono ?_; rintro e w4 ⟨rfl, hb⟩; replace EE := Lib.hid (EE.out.keep hb); have cb := EE.out.box.cell; (try replace S1 := Lib.hid (S1.out.keep hb)); (try replace S2 := Lib.hid (S2.out.keep hb)); (try replace L1 := Lib.hid (L1.out.keep hb)); (try replace L2 := Lib.hid (L2.out.keep hb)); (try replace ST := Lib.hid (ST.out.keep hb)); have pf := PF.out _ EE.out.below; clear hb)
                  | (go_at_call 35; refine (HPe.out _).mono ?_; rintro e w5 ⟨rfl, hb⟩; replace EE := Lib.hid (EE.out.keep hb); have cb := EE.out.box.cell; (try replace S1 := Lib.hid (S1.out.keep hb)); (try replace S2 := Lib.hid (S2.out.keep hb)); (try replace L1 := Lib.hid (L1.out.keep hb)); (try replace L2 := Lib.hid (L2.out.keep hb)); (try replace ST := Lib.hid (ST.out.keep hb)); have pf := PF.out _ EE.out.below; clear hb)
                  | (go_at_call 45; refine (HIs.out _ EE.out.below).mono ?_; rintro e w3 ⟨rfl, hb⟩; replace EE := Lib.hid (EE.out.keep hb); have cb := EE.out.box.cell; (try replace S1 := Lib.hid (S1.out.keep hb)); (try replace S2 := Lib.hid (S2.out.keep hb)); (try replace L1 := Lib.hid (L1.out.keep hb)); (try replace L2 := Lib.hid (L2.out.keep hb)); (try replace ST := Lib.hid (ST.out.keep hb)); have pf := PF.out _ EE.out.below; clear hb)
                  | (go_at_call 37; refine (HTk.out _ EE.out.below).mono ?_; rintro e w6 ⟨lA1, lc1, rfl, hsl, hb⟩; replace EE := Lib.hid (EE.out.keep hb); have cb := EE.out.box.cell; (try replace S1 := Lib.hid (S1.out.keep hb)); (try replace S2 := Lib.hid (S2.out.keep hb)); (try replace L1 := Lib.hid (L1.out.keep hb)); (try replace L2 := Lib.hid (L2.out.keep hb)); (try replace ST := Lib.hid (ST.out.keep hb)); have pf := PF.out _ EE.out.below; have L1 := Lib.hid hsl; clear hb hsl)
                  | (go_at_call 31; refine (HS1.out lA1 lc1 _ EE.out.below L1.out).mono ?_; rintro e w7 ⟨v, rfl, ho, hb⟩; replace EE := Lib.hid (EE.out.keep hb); have cb := EE.out.box.cell; (try replace S1 := Lib.hid (S1.out.keep hb)); (try replace S2 := Lib.hid (S2.out.keep hb)); (try replace L1 := Lib.hid (L1.out.keep hb)); (try replace L2 := Lib.hid (L2.out.keep hb)); (try replace ST := Lib.hid (ST.out.keep hb)); have pf := PF.out _ EE.out.below; obtain ⟨E1, d1, rfl, hs1, _⟩ := ho.sl; rw [HE1.out] at hs1 ⊢; have S1 := Lib.hid hs1; clear hb ho hs1; obtain ⟨b1, o1, ha1⟩ := S1.out.addr (by omega); subst ha1; have z1 := cellShare S1.out HF1.out)
                  | (go_at_call 24; refine (HK.out _ EE.out.below).mono ?_; rintro e w8 ⟨rfl, hb⟩; replace EE := Lib.hid (EE.out.keep hb); clear hb))
                have M1 := Lib.hid fun (W : World) (hb : Below w7.heap.size w7 W) => cellShare (S1.out.keep hb) HF1.out
                clear z1
                apply wp_loose 13 (.v _ :: .v _ :: .v _ :: .v _ :: .v _ :: .v _ :: .v _ :: .r (fun v W => ∃ A2 c2, v = .tuple #[.slice A2 m c2, .int .i64 0] ∧ SlOf inC 1 W A2 m t) :: .r (fun v W => ∃ A2 c2, v = .tuple #[.slice A2 m c2, .int .i64 0] ∧ SlOf inC 1 W A2 m t) :: .r (fun v W => ∃ A2 c2, v = .slice A2 m c2 ∧ SlOf inC 1 W A2 m t) :: .v _ :: .r (fun v W => ∃ A2 c2, v = .slice A2 m c2 ∧ SlOf inC 1 W A2 m t) :: .v _ :: []) (by kernel_rfl) (by kernel_rfl) (by kernel_rfl) (by decide) rfl
                intro K hK
                refine OblS.rowG (by kernel_rfl) 25 _ rfl w.heap.size rfl 25 _ _ EE.out.box Tryz.underlying25 rfl (by kernel_rfl) ?_
                iterate 6 (apply OblS.val (by kernel_rfl); (intro w' hb _; have q1 := M1.out w' hb; go_simp; rfl))
                apply OblS.callR 43
                · rintro v a b ⟨A2, c2, rfl, h⟩ hb; exact ⟨A2, c2, rfl, h.keep hb⟩
                · kernel_rfl
                · intro w' hb _
                  apply Exists.intro; apply And.intro; (go_simp; rfl); refine (HTr.out w' (EE.out.keep hb).below).mono ?_
                  rintro e w8 ⟨A2, c2, rfl, h1, h2⟩
                  exact ⟨_, rfl, ⟨A2, c2, rfl, h1⟩, h2⟩
                intro v7
                apply OblS.run
                · rintro v a b ⟨A2, c2, rfl, h⟩ hb; exact ⟨A2, c2, rfl, h.keep hb⟩
                · kernel_rfl
                · intro w' hb hH
                  have ho := hH _ (List.mem_cons_self ..) (by kernel_rfl)
                  exact ⟨v7, w', by go_simp, ho, Below.refl _ _⟩
                intro v8
                apply OblS.run
                · rintro v a b ⟨A2, c2, rfl, h⟩ hb; exact ⟨A2, c2, rfl, h.keep hb⟩
                · kernel_rfl
                · intro w' hb hH
                  obtain ⟨A2, c2, e, h⟩ := hH _ (List.mem_cons_self ..) (by kernel_rfl)
                  try dsimp only at e
                  subst e
                  exact ⟨.slice A2 m c2, w', by go_simp, ⟨A2, c2, rfl, h⟩, Below.refl _ _⟩
                intro v9
                apply OblS.val (v := .int .i64 0) (by kernel_rfl)
                · intro w' hb hH
                  obtain ⟨A2, c2, e, h⟩ := hH _ (List.mem_cons_of_mem _ (List.mem_cons_self ..)) (by kernel_rfl)
                  try dsimp only at e
                  subst e
                  go_simp
                apply OblS.run
                · rintro v a b ⟨A2, c2, rfl, h⟩ hb; exact ⟨A2, c2, rfl, h.keep hb⟩
                · kernel_rfl
                · intro w' hb hH
                  have ho := hH _ (List.mem_cons_self ..) (by kernel_rfl)
                  exact ⟨v9, w', by go_simp, ho, Below.refl _ _⟩
                intro v11
                apply OblS.val (by kernel_rfl)
                · intro w' hb _; go_simp; rfl
                apply OblS.nil
                apply hK
                intro w9 hb hH
                obtain ⟨A2, c2, e, hx⟩ := hH _ (List.mem_cons_self ..)
                clear hH hK K
                try dsimp only at e
                subst e
                simp only [Act.put, List.setIfInBounds_toArray, List.set_cons_zero, List.set_cons_succ, List.drop_succ_cons, List.drop_zero]
                have LT := Lib.hid hx
                replace EE := Lib.hid (EE.out.keep hb); replace S1 := Lib.hid (S1.out.keep hb); have cb := EE.out.box.cell
                clear hb hx M1
                by_cases hnm : n = m
                · subst hnm
                  replace HB4 := Lib.hid (HB4.out rfl)
                  go_wp2_with (first
                    | (refine wpList_load_row rfl 25 _ rfl w.heap.size rfl 25 _ (0, 0) _ EE.out.box Tryz.underlying25 rfl (by kernel_rfl) ?_)
                    | (go_at_call 45; refine (HI2.out A2 c2 _ EE.out.below LT.out).mono ?_; rintro e w10 ⟨rfl, hb⟩; replace EE := Lib.hid (EE.out.keep hb); have cb := EE.out.box.cell; (try replace S1 := Lib.hid (S1.out.keep hb)); (try replace LT := Lib.hid (LT.out.keep hb)); (try replace L2 := Lib.hid (L2.out.keep hb)); clear hb)
                    | (go_at_call 46; refine (HB4.out A2 c2 _ EE.out.below LT.out).mono ?_; rintro e w11 ⟨rfl, hb⟩; replace EE := Lib.hid (EE.out.keep hb); have cb := EE.out.box.cell; (try replace S1 := Lib.hid (S1.out.keep hb)); (try replace LT := Lib.hid (LT.out.keep hb)); (try replace L2 := Lib.hid (L2.out.keep hb)); clear hb)
                    | (go_at_call 37; refine (HTk2.out A2 c2 _ EE.out.below LT.out).mono ?_; rintro e w12 ⟨lA2, lc2, rfl, hsl, hb⟩; replace EE := Lib.hid (EE.out.keep hb); have cb := EE.out.box.cell; (try replace S1 := Lib.hid (S1.out.keep hb)); (try replace LT := Lib.hid (LT.out.keep hb)); (try replace L2 := Lib.hid (L2.out.keep hb)); have L2 := Lib.hid hsl; clear hb hsl)
                    | (go_at_call 31; refine (HS2.out lA2 lc2 _ EE.out.below L2.out).mono ?_; rintro e w13 ⟨v, rfl, ho, hb⟩; replace EE := Lib.hid (EE.out.keep hb); have cb := EE.out.box.cell; (try replace S1 := Lib.hid (S1.out.keep hb)); (try replace LT := Lib.hid (LT.out.keep hb)); (try replace L2 := Lib.hid (L2.out.keep hb)); obtain ⟨E2, d2, rfl, hs2, _⟩ := ho.sl; rw [HE2.out] at hs2 ⊢; have S2 := Lib.hid hs2; clear hb ho hs2; obtain ⟨b2, o2, ha2⟩ := S2.out.addr (by omega); subst ha2; have z2 := cellShare S2.out HF2.out))
                  have M2 := Lib.hid fun (W : World) (hb : Below w13.heap.size w13 W) => (show W.cell? ⟨b1, o1 + k * 5, none⟩ = some (.int .i64 sh) ∧ W.cell? ⟨b2, o2 + k * 5, none⟩ = some (.int .i64 sh) from ⟨cellShare (S1.out.keep hb) HF1.out, cellShare (S2.out.keep hb) HF2.out⟩)
                  clear z2
                  apply wp_loose 26 (.v _ :: .v _ :: .v _ :: .v _ :: .v _ :: .v _ :: .v _ :: .v _ :: .v _ :: .v _ :: .v _ :: .v _ :: .v _ :: .v _ :: .v _ :: .v _ :: .v _ :: .v _ :: .v _ :: .v _ :: .v _ :: .v _ :: .v _ :: .v _ :: .v _ :: .v _ :: []) (by kernel_rfl) (by kernel_rfl) (by kernel_rfl) (by decide) rfl
                  intro K hK
                  apply OblS.val (by kernel_rfl)
                  · intro w' hb _; go_simp; rfl
                  iterate 2 (apply OblS.val (v := .bool true) (by kernel_rfl); (intro w' hb _; go_simp))
                  iterate 4 (apply OblS.val (by kernel_rfl); (intro w' hb _; go_simp; rfl))
                  iterate 3 (apply OblS.val (v := .bool true) (by kernel_rfl); (intro w' hb _; go_simp))
                  iterate 10 (apply OblS.val (by kernel_rfl); (intro w' hb _; obtain ⟨q1, q2⟩ := M2.out w' hb; go_simp; rfl))
                  iterate 3 (apply OblS.val (v := .bool true) (by kernel_rfl); (intro w' hb _; go_simp))
                  apply OblS.call 24 (by kernel_rfl)
                  · intro w' hb _; apply Exists.intro; apply And.intro; (go_simp; rfl); exact HK.out w' (EE.out.keep hb).below
                  iterate 2 (apply OblS.val (by kernel_rfl); (intro w' hb _; go_simp; rfl))
                  apply OblS.nil
                  apply hK
                  intro w14 hb hH
                  clear hH hK K
                  simp only [Act.put, List.setIfInBounds_toArray, List.set_cons_zero, List.set_cons_succ, List.drop_succ_cons, List.drop_zero]
                  have EF := Lib.hid (EE.out.keep hb)
                  clear hb
                  go_wp2
                  exact bodyPost_ret (results_tmp rfl _ _ _) rfl ⟨rfl, EF.out.below⟩
                · have e1 : ((m : Int) == (n : Int)) = false := by rw [beq_eq_false_iff_ne]; omega
                  have e2 : ¬ m = n := fun h => hnm h.symm
                  clear HB4
                  go_wp2_with (first
                    | (refine wpList_load_row rfl 25 _ rfl w.heap.size rfl 25 _ (0, 0) _ EE.out.box Tryz.underlying25 rfl (by kernel_rfl) ?_)
                    | (go_at_call 45; refine (HI2.out A2 c2 _ EE.out.below LT.out).mono ?_; rintro e w10 ⟨rfl, hb⟩; replace EE := Lib.hid (EE.out.keep hb); have cb := EE.out.box.cell; (try replace S1 := Lib.hid (S1.out.keep hb)); (try replace LT := Lib.hid (LT.out.keep hb)); (try replace L2 := Lib.hid (L2.out.keep hb)); clear hb)
                    | (go_at_call 46; refine (HB4.out A2 c2 _ EE.out.below LT.out).mono ?_; rintro e w11 ⟨rfl, hb⟩; replace EE := Lib.hid (EE.out.keep hb); have cb := EE.out.box.cell; (try replace S1 := Lib.hid (S1.out.keep hb)); (try replace LT := Lib.hid (LT.out.keep hb)); (try replace L2 := Lib.hid (L2.out.keep hb)); clear hb)
                    | (go_at_call 37; refine (HTk2.out A2 c2 _ EE.out.below LT.out).mono ?_; rintro e w12 ⟨lA2, lc2, rfl, hsl, hb⟩; replace EE := Lib.hid (EE.out.keep hb); have cb := EE.out.box.cell; (try replace S1 := Lib.hid (S1.out.keep hb)); (try replace LT := Lib.hid (LT.out.keep hb)); (try replace L2 := Lib.hid (L2.out.keep hb)); have L2 := Lib.hid hsl; clear hb hsl)
                    | (go_at_call 31; refine (HS2.out lA2 lc2 _ EE.out.below L2.out).mono ?_; rintro e w13 ⟨v, rfl, ho, hb⟩; replace EE := Lib.hid (EE.out.keep hb); have cb := EE.out.box.cell; (try replace S1 := Lib.hid (S1.out.keep hb)); (try replace LT := Lib.hid (LT.out.keep hb)); (try replace L2 := Lib.hid (L2.out.keep hb)); obtain ⟨E2, d2, rfl, hs2, _⟩ := ho.sl; rw [HE2.out] at hs2 ⊢; have S2 := Lib.hid hs2; clear hb ho hs2; obtain ⟨b2, o2, ha2⟩ := S2.out.addr (by omega); subst ha2; have z2 := cellShare S2.out HF2.out))
                  have M2 := Lib.hid fun (W : World) (hb : Below w13.heap.size w13 W) => (show W.cell? ⟨b1, o1 + k * 5, none⟩ = some (.int .i64 sh) ∧ W.cell? ⟨b2, o2 + k * 5, none⟩ = some (.int .i64 sh) from ⟨cellShare (S1.out.keep hb) HF1.out, cellShare (S2.out.keep hb) HF2.out⟩)
                  clear z2
                  apply wp_loose 26 (.v _ :: .v _ :: .v _ :: .v _ :: .v _ :: .v _ :: .v _ :: .v _ :: .v _ :: .v _ :: .v _ :: .v _ :: .v _ :: .v _ :: .v _ :: .v _ :: .v _ :: .v _ :: .v _ :: .v _ :: .v _ :: .v _ :: .v _ :: .v _ :: .v _ :: .v _ :: []) (by kernel_rfl) (by kernel_rfl) (by kernel_rfl) (by decide) rfl
                  intro K hK
                  apply OblS.val (by kernel_rfl)
                  · intro w' hb _; go_simp; rfl
                  iterate 2 (apply OblS.val (v := .bool true) (by kernel_rfl); (intro w' hb _; go_simp))
                  iterate 4 (apply OblS.val (by kernel_rfl); (intro w' hb _; go_simp; rfl))
                  iterate 3 (apply OblS.val (v := .bool true) (by kernel_rfl); (intro w' hb _; go_simp))
                  iterate 10 (apply OblS.val (by kernel_rfl); (intro w' hb _; obtain ⟨q1, q2⟩ := M2.out w' hb; go_simp; rfl))
                  iterate 3 (apply OblS.val (v := .bool true) (by kernel_rfl); (intro w' hb _; go_simp))
                  apply OblS.call 24 (by kernel_rfl)
                  · intro w' hb _; apply Exists.intro; apply And.intro; (go_simp; rfl); exact HK.out w' (EE.out.keep hb).below
                  iterate 2 (apply OblS.val (by kernel_rfl); (intro w' hb _; go_simp; rfl))
                  apply OblS.nil
                  apply hK
                  intro w14 hb hH
                  clear hH hK K
                  simp only [Act.put, List.setIfInBounds_toArray, List.set_cons_zero, List.set_cons_succ, List.drop_succ_cons, List.drop_zero]
                  have EF := Lib.hid (EE.out.keep hb)
                  clear hb
                  go_wp2
                  exact bodyPost_ret (results_tmp rfl _ _ _) rfl ⟨rfl, EF.out.below⟩
end Go.Proofs
namespace Go.Proofs.YtplhaohcmhepbaaGreatDoor.shareWhich
open Go.ChangeShapes Go.WideShapes Go.ChangeAt Go.RowKit Go.Proofs

theorem own : ownKnob Tryz.prog.godebug = none := f_own
theorem laidOut : laidOutB Tryz.prog = true := f_laid
set_option maxRecDepth 100000 in
theorem lifted (os : Os) (started : os.Started) (H : Type) (enc : TypeId × Value → H) :
    ReturnsInHanded {} Tryz.checked os 11 .any (fun w args => (Rows.shareWhichSpec.pre enc Tryz.prog Tryz.f11 [] false w args ∧ laidMetH Tryz.prog Rows.shareWhichRow.laid w) ∧ sizedMet enc Tryz.prog Tryz.f11 (OpenSpec.ofChange Rows.shareWhichSpec) false w args)
      (Rows.shareWhichSpec.post enc Tryz.prog Tryz.f11 false true false false) := by
  refine returnsInHanded_of_change_and (C := Tryz.checked) (X := fun w _ => laidMetH Tryz.prog Rows.shareWhichRow.laid w) (fun _ _ _ hh h => h.of_heap hh) own started (by kernel_rfl) Tryz.func11
    (ChangeSpec.witness_shaped (enc := enc) (C := Tryz.checked) (os := os) (X := fun w _ => laidMetH Tryz.prog Rows.shareWhichRow.laid w) false (World.laidAll Tryz.prog os Rows.shareWhichRow.laid) #[.agg #[.slice none 0 0, .slice none 0 0], .int .i64 0, .slice none 0 0] 8 (World.laidAll_os _ _ _) (World.shaped_of_ZipB (by kernel_rfl) (by kernel_rfl)) (by kernel_rfl) (by kernel_rfl) (by kernel_rfl) (by rw [MakeChecks.laidMetH_plain _ _ _ (by kernel_rfl)]; exact laidMet_laidAll _ (by kernel_rfl) (by kernel_rfl))) ?_
  intro W base args ds gs before hval0 hW _ _ hL _
  have hval : ∀ (j : Nat) t v, Tryz.f11.params[j]? = some t → args[j]? = some v → Value.okWide Tryz.prog W .any base t v := hval0
  have hW' := hW
  obtain ⟨p, q, hA0, hV, rfl, hfz, hnd⟩ := hW
  have hA : DataW.TrodAll enc Tryz.prog W 0 (fun _ => true) true Tryz.f11.params.toList args.toList ds p := hA0
  rw [Tryz.params11] at hA hval
  obtain ⟨v0, vs0, d0, ds0, p0, q0, hargs, rfl, rfl, h0, r0⟩ := trodAll_cons hA
  obtain ⟨v1, vs1, d1, ds1, p1, q1, rfl, rfl, rfl, h1, r1⟩ := trodAll_cons r0
  obtain ⟨v2, vs2, d2, ds2, p2, q2, rfl, rfl, rfl, h2, r2⟩ := trodAll_cons r1
  obtain ⟨rfl, rfl, rfl⟩ := trodAll_nil r2
  obtain rfl : args = #[v0, v1, v2] := by cases args; simp_all
  obtain ⟨rfl, rfl⟩ := trodVars_none hV
  have k0 := h0
  have lt0 : ∀ x ∈ p0, x.block < W.heap.size := by obtain ⟨m, hm⟩ := k0; exact DataW.trod_lt m _ _ _ hm
  have u0 := hval 0 25 v0 rfl rfl
  obtain ⟨s0, rfl, hd0, wp0, wl0, hx0⟩ := arg_season u0 h0
  have k1 := h1
  have lt1 : ∀ x ∈ p1, x.block < W.heap.size := by obtain ⟨m, hm⟩ := k1; exact DataW.trod_lt m _ _ _ hm
  have u1 := hval 1 3 v1 rfl rfl
  obtain ⟨a1, rfl, w1⟩ := arg_int u1 h1
  have k2 := h2
  have lt2 : ∀ x ∈ p2, x.block < W.heap.size := by obtain ⟨m, hm⟩ := k2; exact DataW.trod_lt m _ _ _ hm
  have u2 := hval 2 30 v2 rfl rfl
  obtain ⟨A2, n2, c2, l2, rfl, hd2, hc2, hm2, hA2⟩ := arg_ints u2 h2
  have htab := tab_of_laid (show laidMet Tryz.prog Rows.shareWhichRow.laid W from hL)
  clear hA0 hval0
  simp only [List.append_nil] at hW'
  refine (shareWhich_walk s0 a1 A2 n2 c2 l2 W hd0 hd2 (itoa_tab htab)).mono fun e W' ⟨he, bel⟩ => ?_
  subst he
  exact ⟨_, rfl, _, _, _, [], _, [], hW', trodAll_mk1 (shut_bool Tryz.underlying4 _), (trodAll_cons_mk (Below.trod laidOut (by kernel_rfl) (of_decide_eq_true (by kernel_rfl)) k0 bel lt0) (trodAll_cons_mk (Below.trod laidOut (by kernel_rfl) (of_decide_eq_true (by kernel_rfl)) k1 bel lt1) (trodAll_cons_mk (Below.trod laidOut (by kernel_rfl) (of_decide_eq_true (by kernel_rfl)) k2 bel lt2) trodAll_mk0))), rfl, bel.frame _, fun h => by cases h⟩

theorem both_true {a b : Bool} (h : a = true) (g : b = true) : (a && b) = true := by rw [h, g]; rfl
set_option maxHeartbeats 16000000 in
theorem closed : joinedFacts Tryz.prog 11 Tryz.f11 Rows.shareWhichSpec Rows.shareWhichRow = true := by
  unfold joinedFacts
  repeat' (with_reducible refine both_true ?_ ?_)
  all_goals first | (with_reducible exact f_laid) | (with_reducible exact f_rowed) | (with_reducible exact f_heard) | (with_reducible exact f_enter) | (with_reducible rw [f_keys]; as_aux_lemma => kernel_rfl) | (with_reducible rw [f_lift]; as_aux_lemma => kernel_rfl) | (with_reducible rw [f_make]; as_aux_lemma => kernel_rfl) | (as_aux_lemma => kernel_rfl)

theorem row_holds : Rows.ShareWhichSaid :=
  OpenClaim.holds_of_wide 11 Tryz.f11 rfl rfl rfl rfl rfl rfl rfl ⟨rfl, rfl, rfl, rfl, rfl⟩ rfl rfl rfl rfl rfl (by as_aux_lemma => kernel_rfl) Tryz.func11 closed
    (of_decide_eq_true (by kernel_rfl)) (by unfold Func.isWrapper; first | (rw [if_pos (by decide +kernel)]; kernel_rfl) | (rw [if_neg (by decide +kernel)]; exact ⟨rfl, rfl⟩))
    (fun os started H enc _ => lifted os started H enc)

set_option maxHeartbeats 8000000 in
theorem shareWhich_holds : Rows.ShareWhichCardSaid :=
  Claim7.holds_tied_plain_at .later [] [.data, .data, .data, .data, .pinned] true (true, "7e62b5f23aa16cc2579dbf745918b39c2216085a6a4405f0c28cfd6d2389e0e4") true
    row_holds (fun _ h => by cases h) (by as_aux_lemma => kernel_rfl) (fun _ h => by cases h) shareWhich_row_tie rfl ⟨rfl, rfl⟩ (by as_aux_lemma => kernel_rfl) rfl
    (fun f fn hf hfn => by
      obtain rfl : f = 11 := Option.some.inj ((show Tryz.prog.funcNamed "bathyal/bathyallaw05.ShareWhich" = some 11 by kernel_rfl).symm.trans hf) |>.symm
      obtain rfl : fn = Tryz.f11 := (Option.some.inj (Tryz.func11.symm.trans hfn)).symm
      exact ⟨by kernel_rfl, fun j t ht => by
        rw [Tryz.params11] at ht
        have hm : t ∈ [25, 3, 30] := by simpa using Array.mem_of_getElem? ht
        have hall : ([25, 3, 30].all fun u => !Tryz.prog.wantsStandIn u) = true := by kernel_rfl
        exact (show Tryz.prog.wantsStandIn t = false by simpa using List.all_eq_true.1 hall t hm)⟩)
    (by as_aux_lemma => kernel_rfl)
#print axioms shareWhich_holds
end Go.Proofs.YtplhaohcmhepbaaGreatDoor.shareWhich
