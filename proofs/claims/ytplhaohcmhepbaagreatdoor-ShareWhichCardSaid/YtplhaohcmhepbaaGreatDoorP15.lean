/-
  Contracts of the specification's Person, Part, May, With and Owed hold at every season of moderate size.
-/
import Derived.Test.YtplhaohcmhepbaaGreatDoorP14
import Derived.Test.YtplhaohcmhepbaaGreatDoorP1
import Derived.Test.YtplhaohcmhepbaaGreatDoorP6
import Derived.Test.YtplhaohcmhepbaaGreatDoorP12
namespace Go.Proofs

end Go.Proofs
namespace Go.Proofs

theorem clr_has : ∀ n : Fin 64, ∀ k j : Fin 6, hasB (clrN ((n : Nat) : Int) k) j = (if (j : Nat) = k then false else hasB ((n : Nat) : Int) j) := by decide +kernel
theorem has_clr {w : Int} {k j : Nat} (h0 : 0 ≤ w) (h1 : w < 64) (hk : k < 6) (hj : j < 6) : hasB (clrN w k) j = (if j = k then false else hasB w j) := by
  obtain ⟨n, rfl⟩ : ∃ n : Nat, w = n := ⟨w.toNat, by omega⟩
  exact clr_has ⟨n, by omega⟩ ⟨k, hk⟩ ⟨j, hj⟩
theorem Seas.w64 {ps : List Pe} {ls : List La} (h : Seas ps ls) {l : La} (hl : l ∈ ls) : 0 ≤ l.w ∧ l.w < 64 := by
  have h1 := h.la l hl
  have h2 := h.six
  have h3 : (2 : Nat) ^ ps.length ≤ 2 ^ 6 := Nat.pow_le_pow_right (by omega) h2
  have e : ((2 ^ ps.length : Nat) : Int) = (2 : Int) ^ ps.length := by push_cast; rfl
  omega
end Go.Proofs
namespace Go.Proofs

/-- Persons of whom some desert. -/
structure Des (ps qs : List Pe) (q : Nat → Bool) : Prop where
  len : qs.length = ps.length
  get : ∀ (k : Nat) x, ps[k]? = some x → qs[k]? = some (if q k then desert x else x)
end Go.Proofs
namespace Go.Proofs
open Go.RowKit Go.Shelf
attribute [local go_sem ↓] Go.wp_at_zero Go.wp_at_succ

theorem person_c (s : Sv) (n : Int) (hp : s.pn ≤ 1000000) (w : World) : Calls Tryz.prog 35 #[s.val, .int .i64 n] w fun e w' => e = .returned (.bool (inB n 0 ((s.pn : Int) - 1))) ∧ Below w.heap.size w w' := by
  have HI := Lib.hid fun (W : World) => refIn_c n 0 ((s.pn : Int) - 1) W
  obtain ⟨pA, lA, pn, pc, ln, lc, ps, ls⟩ := s
  simp only [Sv.val] at *
  have e1 : wrap64 ((pn : Int) - 1) = (pn : Int) - 1 := w64 (by omega) (by omega)
  have B1 := Lib.hid (newB (Below.refl w.heap.size w) (.cells #[.slice pA pn pc, .slice lA ln lc] 25))
  go_enter Tryz.func35, Tryz.ntmps35
  go_wp2_with (go_at_call 82; refine (HI.out _).mono ?_; rintro e w1 ⟨rfl, rfl⟩)
  exact bodyPost_ret (results_tmp rfl _ _ _) rfl ⟨rfl, B1.out⟩

end Go.Proofs
namespace Go.Proofs
open Go.RowKit Go.Shelf
attribute [local go_sem ↓] Go.wp_at_zero Go.wp_at_succ

end Go.Proofs
namespace Go.Proofs
open Go.RowKit Go.Shelf
attribute [local go_sem ↓] Go.wp_at_zero Go.wp_at_succ

end Go.Proofs
