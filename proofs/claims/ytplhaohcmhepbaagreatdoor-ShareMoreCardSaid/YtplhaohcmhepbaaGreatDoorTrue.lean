/-
  The statement ShareTrue holds for every input: the law returns true and what came in reads as before.
-/
import Derived.Test.YtplhaohcmhepbaaGreatDoorOweds
import Derived.Test.YtplhaohcmhepbaaGreatDoorP13
import Derived.Test.YtplhaohcmhepbaaGreatDoorP17
import Derived.Test.YtplhaohcmhepbaaGreatDoorRows
import Derived.Test.YtplhaohcmhepbaaGreatDoorTie
import Derived.Test.YtplhaohcmhepbaaGreatDoorCards
import Derived.Test.YtplhaohcmhepbaaGreatDoorChecked
import Derived.ProofKit
import Derived.OpenShut
import Derived.LaidMore
import Derived.Stop.Joined
import Derived.SevenTiedAt
import Derived.Carry
import Derived.Lay
namespace Go.Proofs
open Go.RowKit Go.Shelf
attribute [local go_sem ↓] Go.wp_at_zero Go.wp_at_succ

theorem Seas.endShare {ps : List Pe} {ls : List La} (h : Seas ps ls) {k : Nat} (hk : k < ps.length) : ∃ e, (endsF ps ls)[k]? = some e ∧ e.s = shareF ps ls k := by
  obtain ⟨x, hx, h1, _⟩ := h.endFacts hk
  refine ⟨_, endsG hk, ?_⟩
  split
  · exact h1
  · exact h1
theorem cellShare {W : World} {b o n k : Nat} {E : List En} {v : Int} (h : SlOf eE.f eE.sz W (some ⟨b, o, none⟩) n E) (hf : ∃ e, E[k]? = some e ∧ e.s = v) : W.cell? ⟨b, o + k * 5, none⟩ = some (.int .i64 v) := by
  obtain ⟨e, he, rfl⟩ := hf
  have := h.range eE_ok.len he 0 _ rfl
  have hz : eE.sz = 5 := rfl
  simpa [hz] using this
set_option maxHeartbeats 4000000 in
set_option maxRecDepth 20000 in
theorem shareTrue_walk (s : Sv) (p may set : Int) (w : World) (hi : s.In w) (hI : ItoaAll w) : Calls Tryz.prog 9 #[s.val, .int .i64 p, .int .i64 may, .int .i64 set] w fun e w' => e = .returned (.bool true) ∧ Below w.heap.size w w' := by
  have HSh := Lib.hid fun (W : World) => short_c s W
  have HK := Lib.hid fun (W : World) (hb : Below w.heap.size w W) => knownLaw_c W (hI.keep hb)
  cases h0 : shortB s
  · rw [h0] at HSh
    clear h0 hi hI
    obtain ⟨pA, lA, pn, pc, ln, lc, ps, ls⟩ := s
    simp only [Sv.val] at *
    have EE := Lib.hid (SBx.start w #[.slice pA pn pc, .slice lA ln lc])
    have cb := EE.out.box.cell
    go_enter Tryz.func9, Tryz.ntmps9
    go_wp2_with (first
      | (refine wpList_load_row rfl 25 _ rfl w.heap.size rfl 25 _ (0, 0) _ EE.out.box Tryz.underlying25 rfl (by kernel_rfl) ?_)
      | (go_at_call 23; refine (HSh.out _).mono ?_; rintro e w1 ⟨rfl, hb⟩; replace EE := Lib.hid (EE.out.keep hb); have cb := EE.out.box.cell; (try replace XX := Lib.hid (XX.out.after hb)); (try have cx := XX.out.cell); (try replace S1 := Lib.hid (S1.out.keep hb)); (try replace S0 := Lib.hid (S0.out.keep hb)); (try replace S2 := Lib.hid (S2.out.keep hb)); (try have pf := PF.out _ EE.out.below); clear hb)
      | (go_at_call 27; refine (HSe.out _ EE.out.below).mono ?_; rintro e w2 ⟨rfl, hb⟩; replace EE := Lib.hid (EE.out.keep hb); have cb := EE.out.box.cell; (try replace XX := Lib.hid (XX.out.after hb)); (try have cx := XX.out.cell); (try replace S1 := Lib.hid (S1.out.keep hb)); (try replace S0 := Lib.hid (S0.out.keep hb)); (try replace S2 := Lib.hid (S2.out.keep hb)); (try have pf := PF.out _ EE.out.below); clear hb)
      | (go_at_call 35; refine (HPe.out _).mono ?_; rintro e w3 ⟨rfl, hb⟩; replace EE := Lib.hid (EE.out.keep hb); have cb := EE.out.box.cell; (try replace XX := Lib.hid (XX.out.after hb)); (try have cx := XX.out.cell); (try replace S1 := Lib.hid (S1.out.keep hb)); (try replace S0 := Lib.hid (S0.out.keep hb)); (try replace S2 := Lib.hid (S2.out.keep hb)); (try have pf := PF.out _ EE.out.below); clear hb)
      | (go_at_call 39; (first | (with_reducible refine (HMa.out _ EE.out.below).mono ?_) | (with_reducible refine (HMs.out _ EE.out.below).mono ?_)); rintro e w4 ⟨rfl, hb⟩; replace EE := Lib.hid (EE.out.keep hb); have cb := EE.out.box.cell; (try replace XX := Lib.hid (XX.out.after hb)); (try have cx := XX.out.cell); (try replace S1 := Lib.hid (S1.out.keep hb)); (try replace S0 := Lib.hid (S0.out.keep hb)); (try replace S2 := Lib.hid (S2.out.keep hb)); (try have pf := PF.out _ EE.out.below); clear hb)
      | (go_at_call 41; refine (HPt.out _).mono ?_; rintro e w5 ⟨rfl, rfl⟩)
      | (go_at_call 24; refine (HK.out _ EE.out.below).mono ?_; rintro e w8 ⟨rfl, hb⟩; replace EE := Lib.hid (EE.out.keep hb); clear hb))
    exact bodyPost_ret (results_tmp rfl _ _ _) rfl ⟨rfl, EE.out.below⟩
  · have hsm : s.pn ≤ 9 ∧ s.ln ≤ 9 := by simpa [shortB] using h0
    rw [h0] at HSh
    have HSe := Lib.hid fun (W : World) (hb : Below w.heap.size w W) => refSeason_c s (by omega) (by omega) W (hi.keep hb)
    have HPe := Lib.hid fun (W : World) => person_c s p (by omega) W
    cases h1 : seasonB s.ps s.ls
    · rw [h1] at HSe
      clear h0 h1 hi hI hsm
      obtain ⟨pA, lA, pn, pc, ln, lc, ps, ls⟩ := s
      simp only [Sv.val] at *
      have EE := Lib.hid (SBx.start w #[.slice pA pn pc, .slice lA ln lc])
      have cb := EE.out.box.cell
      go_enter Tryz.func9, Tryz.ntmps9
      go_wp2_with (first
        | (refine wpList_load_row rfl 25 _ rfl w.heap.size rfl 25 _ (0, 0) _ EE.out.box Tryz.underlying25 rfl (by kernel_rfl) ?_)
        | (go_at_call 23; refine (HSh.out _).mono ?_; rintro e w1 ⟨rfl, hb⟩; replace EE := Lib.hid (EE.out.keep hb); have cb := EE.out.box.cell; (try replace XX := Lib.hid (XX.out.after hb)); (try have cx := XX.out.cell); (try replace S1 := Lib.hid (S1.out.keep hb)); (try replace S0 := Lib.hid (S0.out.keep hb)); (try replace S2 := Lib.hid (S2.out.keep hb)); (try have pf := PF.out _ EE.out.below); clear hb)
        | (go_at_call 27; refine (HSe.out _ EE.out.below).mono ?_; rintro e w2 ⟨rfl, hb⟩; replace EE := Lib.hid (EE.out.keep hb); have cb := EE.out.box.cell; (try replace XX := Lib.hid (XX.out.after hb)); (try have cx := XX.out.cell); (try replace S1 := Lib.hid (S1.out.keep hb)); (try replace S0 := Lib.hid (S0.out.keep hb)); (try replace S2 := Lib.hid (S2.out.keep hb)); (try have pf := PF.out _ EE.out.below); clear hb)
        | (go_at_call 35; refine (HPe.out _).mono ?_; rintro e w3 ⟨rfl, hb⟩; replace EE := Lib.hid (EE.out.keep hb); have cb := EE.out.box.cell; (try replace XX := Lib.hid (XX.out.after hb)); (try have cx := XX.out.cell); (try replace S1 := Lib.hid (S1.out.keep hb)); (try replace S0 := Lib.hid (S0.out.keep hb)); (try replace S2 := Lib.hid (S2.out.keep hb)); (try have pf := PF.out _ EE.out.below); clear hb)
        | (go_at_call 39; (first | (with_reducible refine (HMa.out _ EE.out.below).mono ?_) | (with_reducible refine (HMs.out _ EE.out.below).mono ?_)); rintro e w4 ⟨rfl, hb⟩; replace EE := Lib.hid (EE.out.keep hb); have cb := EE.out.box.cell; (try replace XX := Lib.hid (XX.out.after hb)); (try have cx := XX.out.cell); (try replace S1 := Lib.hid (S1.out.keep hb)); (try replace S0 := Lib.hid (S0.out.keep hb)); (try replace S2 := Lib.hid (S2.out.keep hb)); (try have pf := PF.out _ EE.out.below); clear hb)
        | (go_at_call 41; refine (HPt.out _).mono ?_; rintro e w5 ⟨rfl, rfl⟩)
        | (go_at_call 24; refine (HK.out _ EE.out.below).mono ?_; rintro e w8 ⟨rfl, hb⟩; replace EE := Lib.hid (EE.out.keep hb); clear hb))
      exact bodyPost_ret (results_tmp rfl _ _ _) rfl ⟨rfl, EE.out.below⟩
    · have hs := (seas_iff _ _).1 h1
      have hpl : s.ps.length = s.pn := hi.ps.1
      have hp6 : s.pn ≤ 6 := by rw [← hpl]; exact hs.six
      have hp2 : 2 ≤ s.pn := by rw [← hpl]; exact hs.two
      rw [h1] at HSe
      cases h2 : inB p 0 ((s.pn : Int) - 1)
      · rw [h2] at HPe
        clear h0 h1 h2 hi hI hsm hs hpl
        obtain ⟨pA, lA, pn, pc, ln, lc, ps, ls⟩ := s
        simp only [Sv.val] at *
        have EE := Lib.hid (SBx.start w #[.slice pA pn pc, .slice lA ln lc])
        have cb := EE.out.box.cell
        go_enter Tryz.func9, Tryz.ntmps9
        go_wp2_with (first
          | (refine wpList_load_row rfl 25 _ rfl w.heap.size rfl 25 _ (0, 0) _ EE.out.box Tryz.underlying25 rfl (by kernel_rfl) ?_)
          | (go_at_call 23; refine (HSh.out _).mono ?_; rintro e w1 ⟨rfl, hb⟩; replace EE := Lib.hid (EE.out.keep hb); have cb := EE.out.box.cell; (try replace XX := Lib.hid (XX.out.after hb)); (try have cx := XX.out.cell); (try replace S1 := Lib.hid (S1.out.keep hb)); (try replace S0 := Lib.hid (S0.out.keep hb)); (try replace S2 := Lib.hid (S2.out.keep hb)); (try have pf := PF.out _ EE.out.below); clear hb)
          | (go_at_call 27; refine (HSe.out _ EE.out.below).mono ?_; rintro e w2 ⟨rfl, hb⟩; replace EE := Lib.hid (EE.out.keep hb); have cb := EE.out.box.cell; (try replace XX := Lib.hid (XX.out.after hb)); (try have cx := XX.out.cell); (try replace S1 := Lib.hid (S1.out.keep hb)); (try replace S0 := Lib.hid (S0.out.keep hb)); (try replace S2 := Lib.hid (S2.out.keep hb)); (try have pf := PF.out _ EE.out.below); clear hb)
          | (go_at_call 35; refine (HPe.out _).mono ?_; rintro e w3 ⟨rfl, hb⟩; replace EE := Lib.hid (EE.out.keep hb); have cb := EE.out.box.cell; (try replace XX := Lib.hid (XX.out.after hb)); (try have cx := XX.out.cell); (try replace S1 := Lib.hid (S1.out.keep hb)); (try replace S0 := Lib.hid (S0.out.keep hb)); (try replace S2 := Lib.hid (S2.out.keep hb)); (try have pf := PF.out _ EE.out.below); clear hb)
          | (go_at_call 39; (first | (with_reducible refine (HMa.out _ EE.out.below).mono ?_) | (with_reducible refine (HMs.out _ EE.out.below).mono ?_)); rintro e w4 ⟨rfl, hb⟩; replace EE := Lib.hid (EE.out.keep hb); have cb := EE.out.box.cell; (try replace XX := Lib.hid (XX.out.after hb)); (try have cx := XX.out.cell); (try replace S1 := Lib.hid (S1.out.keep hb)); (try replace S0 := Lib.hid (S0.out.keep hb)); (try replace S2 := Lib.hid (S2.out.keep hb)); (try have pf := PF.out _ EE.out.below); clear hb)
          | (go_at_call 41; refine (HPt.out _).mono ?_; rintro e w5 ⟨rfl, rfl⟩)
          | (go_at_call 24; refine (HK.out _ EE.out.below).mono ?_; rintro e w8 ⟨rfl, hb⟩; replace EE := Lib.hid (EE.out.keep hb); clear hb))
        exact bodyPost_ret (results_tmp rfl _ _ _) rfl ⟨rfl, EE.out.below⟩
      · have hpb : 0 ≤ p ∧ p ≤ (s.pn : Int) - 1 := by simpa [inB] using h2
        obtain ⟨k, rfl⟩ : ∃ k : Nat, p = k := ⟨p.toNat, by omega⟩
        have hk : k < s.pn := by omega
        have hkl : k < s.ps.length := by omega
        have hx := List.getElem?_eq_getElem hkl
        obtain ⟨x, hxx⟩ : ∃ x, x = s.ps[k] := ⟨_, rfl⟩
        rw [← hxx] at hx
        have hgx : s.ps.getD k ⟨0, 0, 0⟩ = x := by rw [List.getD_eq_getElem?_getD, hx]; rfl
        have hpe := hs.pe x (List.mem_of_getElem? hx)
        have HMa := Lib.hid fun (W : World) (hb : Below w.heap.size w W) => may_c s k may hp6 W (hi.keep hb)
        have HMs := Lib.hid fun (W : World) (hb : Below w.heap.size w W) => may_c s k set hp6 W (hi.keep hb)
        obtain ⟨pb, po, hpa⟩ := hi.ps.addr (by omega)
        have PF := Lib.hid fun (W : World) (hb : Below w.heap.size w W) => (show W.cell? ⟨pb, po + k * 3 + 2, none⟩ = some (.int .i64 x.f) from by
          have h := hi.ps.keep hb
          rw [hpa] at h
          exact h.range Pe.cs_len hx 2 _ rfl)
        rw [h2] at HPe
        by_cases hf : x.f = 2
        · rw [hf] at PF
          clear h0 h1 h2 hi hI hsm hs hpl hx hxx hgx hkl
          obtain ⟨pA, lA, pn, pc, ln, lc, ps, ls⟩ := s
          simp only [Sv.val] at *
          subst hpa
          have EE := Lib.hid (SBx.start w #[.slice (some ⟨pb, po, none⟩) pn pc, .slice lA ln lc])
          have cb := EE.out.box.cell
          have pf := PF.out _ EE.out.below
          go_enter Tryz.func9, Tryz.ntmps9
          go_wp2_with (first
            | (refine wpList_load_row rfl 25 _ rfl w.heap.size rfl 25 _ (0, 0) _ EE.out.box Tryz.underlying25 rfl (by kernel_rfl) ?_)
            | (go_at_call 23; refine (HSh.out _).mono ?_; rintro e w1 ⟨rfl, hb⟩; replace EE := Lib.hid (EE.out.keep hb); have cb := EE.out.box.cell; (try replace XX := Lib.hid (XX.out.after hb)); (try have cx := XX.out.cell); (try replace S1 := Lib.hid (S1.out.keep hb)); (try replace S0 := Lib.hid (S0.out.keep hb)); (try replace S2 := Lib.hid (S2.out.keep hb)); (try have pf := PF.out _ EE.out.below); clear hb)
            | (go_at_call 27; refine (HSe.out _ EE.out.below).mono ?_; rintro e w2 ⟨rfl, hb⟩; replace EE := Lib.hid (EE.out.keep hb); have cb := EE.out.box.cell; (try replace XX := Lib.hid (XX.out.after hb)); (try have cx := XX.out.cell); (try replace S1 := Lib.hid (S1.out.keep hb)); (try replace S0 := Lib.hid (S0.out.keep hb)); (try replace S2 := Lib.hid (S2.out.keep hb)); (try have pf := PF.out _ EE.out.below); clear hb)
            | (go_at_call 35; refine (HPe.out _).mono ?_; rintro e w3 ⟨rfl, hb⟩; replace EE := Lib.hid (EE.out.keep hb); have cb := EE.out.box.cell; (try replace XX := Lib.hid (XX.out.after hb)); (try have cx := XX.out.cell); (try replace S1 := Lib.hid (S1.out.keep hb)); (try replace S0 := Lib.hid (S0.out.keep hb)); (try replace S2 := Lib.hid (S2.out.keep hb)); (try have pf := PF.out _ EE.out.below); clear hb)
            | (go_at_call 39; (first | (with_reducible refine (HMa.out _ EE.out.below).mono ?_) | (with_reducible refine (HMs.out _ EE.out.below).mono ?_)); rintro e w4 ⟨rfl, hb⟩; replace EE := Lib.hid (EE.out.keep hb); have cb := EE.out.box.cell; (try replace XX := Lib.hid (XX.out.after hb)); (try have cx := XX.out.cell); (try replace S1 := Lib.hid (S1.out.keep hb)); (try replace S0 := Lib.hid (S0.out.keep hb)); (try replace S2 := Lib.hid (S2.out.keep hb)); (try have pf := PF.out _ EE.out.below); clear hb)
            | (go_at_call 41; refine (HPt.out _).mono ?_; rintro e w5 ⟨rfl, rfl⟩)
            | (go_at_call 24; refine (HK.out _ EE.out.below).mono ?_; rintro e w8 ⟨rfl, hb⟩; replace EE := Lib.hid (EE.out.keep hb); clear hb))
          exact bodyPost_ret (results_tmp rfl _ _ _) rfl ⟨rfl, EE.out.below⟩
        · have hf2 : (x.f == 2) = false := by simp [hf]
          have hsh : shB x.f = true := by
            have : x.f = 1 ∨ x.f = 3 := by omega
            rcases this with h | h <;> rw [h] <;> rfl
          cases h3 : mayB s.ps k may
          · rw [h3] at HMa
            generalize x.f = xf at *
            clear h0 h1 h2 h3 hi hI hsm hs hpl hx hxx hgx hkl hf hsh HMs
            obtain ⟨pA, lA, pn, pc, ln, lc, ps, ls⟩ := s
            simp only [Sv.val] at *
            subst hpa
            have EE := Lib.hid (SBx.start w #[.slice (some ⟨pb, po, none⟩) pn pc, .slice lA ln lc])
            have cb := EE.out.box.cell
            have pf := PF.out _ EE.out.below
            go_enter Tryz.func9, Tryz.ntmps9
            go_wp2_with (first
              | (refine wpList_load_row rfl 25 _ rfl w.heap.size rfl 25 _ (0, 0) _ EE.out.box Tryz.underlying25 rfl (by kernel_rfl) ?_)
              | (go_at_call 23; refine (HSh.out _).mono ?_; rintro e w1 ⟨rfl, hb⟩; replace EE := Lib.hid (EE.out.keep hb); have cb := EE.out.box.cell; (try replace XX := Lib.hid (XX.out.after hb)); (try have cx := XX.out.cell); (try replace S1 := Lib.hid (S1.out.keep hb)); (try replace S0 := Lib.hid (S0.out.keep hb)); (try replace S2 := Lib.hid (S2.out.keep hb)); (try have pf := PF.out _ EE.out.below); clear hb)
              | (go_at_call 27; refine (HSe.out _ EE.out.below).mono ?_; rintro e w2 ⟨rfl, hb⟩; replace EE := Lib.hid (EE.out.keep hb); have cb := EE.out.box.cell; (try replace XX := Lib.hid (XX.out.after hb)); (try have cx := XX.out.cell); (try replace S1 := Lib.hid (S1.out.keep hb)); (try replace S0 := Lib.hid (S0.out.keep hb)); (try replace S2 := Lib.hid (S2.out.keep hb)); (try have pf := PF.out _ EE.out.below); clear hb)
              | (go_at_call 35; refine (HPe.out _).mono ?_; rintro e w3 ⟨rfl, hb⟩; replace EE := Lib.hid (EE.out.keep hb); have cb := EE.out.box.cell; (try replace XX := Lib.hid (XX.out.after hb)); (try have cx := XX.out.cell); (try replace S1 := Lib.hid (S1.out.keep hb)); (try replace S0 := Lib.hid (S0.out.keep hb)); (try replace S2 := Lib.hid (S2.out.keep hb)); (try have pf := PF.out _ EE.out.below); clear hb)
              | (go_at_call 39; (first | (with_reducible refine (HMa.out _ EE.out.below).mono ?_) | (with_reducible refine (HMs.out _ EE.out.below).mono ?_)); rintro e w4 ⟨rfl, hb⟩; replace EE := Lib.hid (EE.out.keep hb); have cb := EE.out.box.cell; (try replace XX := Lib.hid (XX.out.after hb)); (try have cx := XX.out.cell); (try replace S1 := Lib.hid (S1.out.keep hb)); (try replace S0 := Lib.hid (S0.out.keep hb)); (try replace S2 := Lib.hid (S2.out.keep hb)); (try have pf := PF.out _ EE.out.below); clear hb)
              | (go_at_call 41; refine (HPt.out _).mono ?_; rintro e w5 ⟨rfl, rfl⟩)
              | (go_at_call 24; refine (HK.out _ EE.out.below).mono ?_; rintro e w8 ⟨rfl, hb⟩; replace EE := Lib.hid (EE.out.keep hb); clear hb))
            exact bodyPost_ret (results_tmp rfl _ _ _) rfl ⟨rfl, EE.out.below⟩
          · obtain ⟨m0, m1, m2, m3⟩ := mayB_facts h3 (by omega) hkl
            cases h4 : mayB s.ps k set
            · rw [h3] at HMa
              rw [h4] at HMs
              generalize x.f = xf at *
              clear h0 h1 h2 h3 h4 hi hI hsm hs hpl hx hxx hgx hkl hf hsh m1
              obtain ⟨pA, lA, pn, pc, ln, lc, ps, ls⟩ := s
              simp only [Sv.val] at *
              subst hpa
              have EE := Lib.hid (SBx.start w #[.slice (some ⟨pb, po, none⟩) pn pc, .slice lA ln lc])
              have cb := EE.out.box.cell
              have pf := PF.out _ EE.out.below
              go_enter Tryz.func9, Tryz.ntmps9
              go_wp2_with (first
                | (refine wpList_load_row rfl 25 _ rfl w.heap.size rfl 25 _ (0, 0) _ EE.out.box Tryz.underlying25 rfl (by kernel_rfl) ?_)
                | (go_at_call 23; refine (HSh.out _).mono ?_; rintro e w1 ⟨rfl, hb⟩; replace EE := Lib.hid (EE.out.keep hb); have cb := EE.out.box.cell; (try replace XX := Lib.hid (XX.out.after hb)); (try have cx := XX.out.cell); (try replace S1 := Lib.hid (S1.out.keep hb)); (try replace S0 := Lib.hid (S0.out.keep hb)); (try replace S2 := Lib.hid (S2.out.keep hb)); (try have pf := PF.out _ EE.out.below); clear hb)
                | (go_at_call 27; refine (HSe.out _ EE.out.below).mono ?_; rintro e w2 ⟨rfl, hb⟩; replace EE := Lib.hid (EE.out.keep hb); have cb := EE.out.box.cell; (try replace XX := Lib.hid (XX.out.after hb)); (try have cx := XX.out.cell); (try replace S1 := Lib.hid (S1.out.keep hb)); (try replace S0 := Lib.hid (S0.out.keep hb)); (try replace S2 := Lib.hid (S2.out.keep hb)); (try have pf := PF.out _ EE.out.below); clear hb)
                | (go_at_call 35; refine (HPe.out _).mono ?_; rintro e w3 ⟨rfl, hb⟩; replace EE := Lib.hid (EE.out.keep hb); have cb := EE.out.box.cell; (try replace XX := Lib.hid (XX.out.after hb)); (try have cx := XX.out.cell); (try replace S1 := Lib.hid (S1.out.keep hb)); (try replace S0 := Lib.hid (S0.out.keep hb)); (try replace S2 := Lib.hid (S2.out.keep hb)); (try have pf := PF.out _ EE.out.below); clear hb)
                | (go_at_call 39; (first | (with_reducible refine (HMa.out _ EE.out.below).mono ?_) | (with_reducible refine (HMs.out _ EE.out.below).mono ?_)); rintro e w4 ⟨rfl, hb⟩; replace EE := Lib.hid (EE.out.keep hb); have cb := EE.out.box.cell; (try replace XX := Lib.hid (XX.out.after hb)); (try have cx := XX.out.cell); (try replace S1 := Lib.hid (S1.out.keep hb)); (try replace S0 := Lib.hid (S0.out.keep hb)); (try replace S2 := Lib.hid (S2.out.keep hb)); (try have pf := PF.out _ EE.out.below); clear hb)
                | (go_at_call 41; refine (HPt.out _).mono ?_; rintro e w5 ⟨rfl, rfl⟩)
                | (go_at_call 24; refine (HK.out _ EE.out.below).mono ?_; rintro e w8 ⟨rfl, hb⟩; replace EE := Lib.hid (EE.out.keep hb); clear hb))
              exact bodyPost_ret (results_tmp rfl _ _ _) rfl ⟨rfl, EE.out.below⟩
            · obtain ⟨t0, t1, t2, t3⟩ := mayB_facts h4 (by omega) hkl
              have hpw := pow_bd s.pn (by omega)
              rw [hpl] at m1 t1
              have HPt := Lib.hid fun (W : World) => part_c set may (by omega) (by omega) (by omega) (by omega) W
              cases h5 : partB set may
              · rw [h3] at HMa
                rw [h4] at HMs
                rw [h5] at HPt
                generalize x.f = xf at *
                clear h0 h1 h2 h3 h4 h5 hi hI hsm hs hpl hx hxx hgx hkl hf hsh m1 t1 hpw
                obtain ⟨pA, lA, pn, pc, ln, lc, ps, ls⟩ := s
                simp only [Sv.val] at *
                subst hpa
                have EE := Lib.hid (SBx.start w #[.slice (some ⟨pb, po, none⟩) pn pc, .slice lA ln lc])
                have cb := EE.out.box.cell
                have pf := PF.out _ EE.out.below
                go_enter Tryz.func9, Tryz.ntmps9
                go_wp2_with (first
                  | (refine wpList_load_row rfl 25 _ rfl w.heap.size rfl 25 _ (0, 0) _ EE.out.box Tryz.underlying25 rfl (by kernel_rfl) ?_)
                  | (go_at_call 23; refine (HSh.out _).mono ?_; rintro e w1 ⟨rfl, hb⟩; replace EE := Lib.hid (EE.out.keep hb); have cb := EE.out.box.cell; (try replace XX := Lib.hid (XX.out.after hb)); (try have cx := XX.out.cell); (try replace S1 := Lib.hid (S1.out.keep hb)); (try replace S0 := Lib.hid (S0.out.keep hb)); (try replace S2 := Lib.hid (S2.out.keep hb)); (try have pf := PF.out _ EE.out.below); clear hb)
                  | (go_at_call 27; refine (HSe.out _ EE.out.below).mono ?_; rintro e w2 ⟨rfl, hb⟩; replace EE := Lib.hid (EE.out.keep hb); have cb := EE.out.box.cell; (try replace XX := Lib.hid (XX.out.after hb)); (try have cx := XX.out.cell); (try replace S1 := Lib.hid (S1.out.keep hb)); (try replace S0 := Lib.hid (S0.out.keep hb)); (try replace S2 := Lib.hid (S2.out.keep hb)); (try have pf := PF.out _ EE.out.below); clear hb)
                  | (go_at_call 35; refine (HPe.out _).mono ?_; rintro e w3 ⟨rfl, hb⟩; replace EE := Lib.hid (EE.out.keep hb); have cb := EE.out.box.cell; (try replace XX := Lib.hid (XX.out.after hb)); (try have cx := XX.out.cell); (try replace S1 := Lib.hid (S1.out.keep hb)); (try replace S0 := Lib.hid (S0.out.keep hb)); (try replace S2 := Lib.hid (S2.out.keep hb)); (try have pf := PF.out _ EE.out.below); clear hb)
                  | (go_at_call 39; (first | (with_reducible refine (HMa.out _ EE.out.below).mono ?_) | (with_reducible refine (HMs.out _ EE.out.below).mono ?_)); rintro e w4 ⟨rfl, hb⟩; replace EE := Lib.hid (EE.out.keep hb); have cb := EE.out.box.cell; (try replace XX := Lib.hid (XX.out.after hb)); (try have cx := XX.out.cell); (try replace S1 := Lib.hid (S1.out.keep hb)); (try replace S0 := Lib.hid (S0.out.keep hb)); (try replace S2 := Lib.hid (S2.out.keep hb)); (try have pf := PF.out _ EE.out.below); clear hb)
                  | (go_at_call 41; refine (HPt.out _).mono ?_; rintro e w5 ⟨rfl, rfl⟩)
                  | (go_at_call 24; refine (HK.out _ EE.out.below).mono ?_; rintro e w8 ⟨rfl, hb⟩; replace EE := Lib.hid (EE.out.keep hb); clear hb))
                exact bodyPost_ret (results_tmp rfl _ _ _) rfl ⟨rfl, EE.out.below⟩
              · have hm63 : may ≤ 2 ^ 6 - 1 ∧ set ≤ 2 ^ 6 - 1 := by
                  have h3 : (2 : Nat) ^ s.pn ≤ 2 ^ 6 := Nat.pow_le_pow_right (by omega) hp6
                  have e : ((2 ^ s.pn : Nat) : Int) = (2 : Int) ^ s.pn := by push_cast; rfl
                  omega
                have hsub : ∀ j, hasB set j = true → hasB may j = true := fun j hj => by
                  by_cases hj6 : j < 6
                  · exact partB_get h5 hj6 hj
                  · rw [hasB_small (n := 6) t0 hm63.2 (by omega)] at hj; cases hj
                have hq1 := des_of s.ps set t0 (by rw [hpl]; exact t1) (by omega)
                have hq2 := des_of s.ps may m0 (by rw [hpl]; exact m1) (by omega)
                have hle1 := des_le hs (des_nil s.ps) hq1 (by simp) t2 t3
                have hle2 := des_le hs hq1 hq2 hsub m2 m3
                have HOw := Lib.hid fun (W : World) (hb : Below w.heap.size w W) => (show Calls Tryz.prog 38 #[s.val, .int .i64 k, .int .i64 may] W fun e w' => e = .returned (.tuple #[.agg #[.int .i64 (shareF s.ps s.ls k), .int .i64 (shareF (desL s.ps (membersL may)) s.ls k)], .int .i64 0]) ∧ Below W.heap.size W w' from by
                  rw [← owed_yes hs hkl (by rw [hgx]; exact hsh) h3 _ hq2]; exact Owed_c s k may (by omega) (by omega) W (hi.keep hb))
                have HW1 := Lib.hid fun (W : World) (hb : Below w.heap.size w W) => refWith_c s set t0 (by omega) (by omega) (by omega) W (hi.keep hb)
                have HW2 := Lib.hid fun (W : World) (hb : Below w.heap.size w W) => refWith_c s may m0 (by omega) (by omega) (by omega) W (hi.keep hb)
                have HS0 := Lib.hid fun (W : World) (hb : Below w.heap.size w W) => settle_ok s hs W (hi.keep hb)
                have HSg := fun (q : Int) (hq0 : hasB q 0 = false) (hd : Des s.ps (desL s.ps (membersL q)) (fun k => hasB q k)) (pA' : Option Addr) (pc' : Nat) (qs : List Pe) (hq : Des s.ps qs (fun k => hasB q k)) (W : World) (hb : Below w.heap.size w W) (hsl : SlOf Pe.cs 3 W pA' s.pn qs) =>
                  (show Calls Tryz.prog 31 #[.agg #[.slice pA' s.pn pc', .slice s.lA s.ln s.lc]] W (fun e w' => ∃ v, e = .returned (.tuple #[v, .int .i64 (boxF (desL s.ps (membersL q)) s.ls), .int .i64 0]) ∧ Own eE W.heap.size v (endsF (desL s.ps (membersL q)) s.ls) w' ∧ Below W.heap.size W w') from by
                    have e := hq.uniq hd
                    subst e
                    exact settle_ok ⟨pA', s.lA, s.pn, pc', s.ln, s.lc, _, s.ls⟩ (hq.seas hs hq0) W ⟨hsl, (hi.keep hb).ls⟩)
                have HS1 := Lib.hid (HSg set t2 hq1)
                have HS2 := Lib.hid (HSg may m2 hq2)
                have HE0 := Lib.hid (show (endsF s.ps s.ls).length = s.pn by rw [endsFLen, hpl])
                have HE1 := Lib.hid (show (endsF (desL s.ps (membersL set)) s.ls).length = s.pn by rw [endsFLen, desL_len, hpl])
                have HE2 := Lib.hid (show (endsF (desL s.ps (membersL may)) s.ls).length = s.pn by rw [endsFLen, desL_len, hpl])
                have HF0 := Lib.hid (hs.endShare hkl)
                have HF1 := Lib.hid ((hq1.seas hs t2).endShare (k := k) (by rw [desL_len]; exact hkl))
                have HF2 := Lib.hid ((hq2.seas hs m2).endShare (k := k) (by rw [desL_len]; exact hkl))
                rw [h3] at HMa
                rw [h4] at HMs
                rw [h5] at HPt
                generalize x.f = xf at *
                clear HSg h0 h1 h2 h3 h4 h5 hi hI hsm hs hpl hx hxx hgx hkl hf hsh m1 t1 hpw hq1 hq2 hsub hm63
                obtain ⟨pA, lA, pn, pc, ln, lc, ps, ls⟩ := s
                simp only [Sv.val] at *
                subst hpa
                generalize shareF (desL ps (membersL set)) ls k = n1 at *
                generalize shareF (desL ps (membersL may)) ls k = n2 at *
                generalize shareF ps ls k = n0 at *
                generalize endsF (desL ps (membersL set)) ls = E1 at *
                generalize endsF (desL ps (membersL may)) ls = E2 at *
                generalize endsF ps ls = E0 at *
                generalize boxF (desL ps (membersL set)) ls = B1 at *
                generalize boxF (desL ps (membersL may)) ls = B2 at *
                generalize boxF ps ls = B0 at *
                have EE := Lib.hid (SBx.start w #[.slice (some ⟨pb, po, none⟩) pn pc, .slice lA ln lc])
                have cb := EE.out.box.cell
                have pf := PF.out _ EE.out.below
                go_enter Tryz.func9, Tryz.ntmps9
                go_wp2_with (first
                  | (refine wpList_load_row rfl 25 _ rfl w.heap.size rfl 25 _ (0, 0) _ EE.out.box Tryz.underlying25 rfl (by kernel_rfl) ?_)
                  | (go_at_call 23; refine (HSh.out _).mono ?_; rintro e w1 ⟨rfl, hb⟩; replace EE := Lib.hid (EE.out.keep hb); have cb := EE.out.box.cell; (try replace XX := Lib.hid (XX.out.after hb)); (try have cx := XX.out.cell); (try replace S1 := Lib.hid (S1.out.keep hb)); (try replace S0 := Lib.hid (S0.out.keep hb)); (try replace S2 := Lib.hid (S2.out.keep hb)); (try have pf := PF.out _ EE.out.below); clear hb)
                  | (go_at_call 27; refine (HSe.out _ EE.out.below).mono ?_; rintro e w2 ⟨rfl, hb⟩; replace EE := Lib.hid (EE.out.keep hb); have cb := EE.out.box.cell; (try replace XX := Lib.hid (XX.out.after hb)); (try have cx := XX.out.cell); (try replace S1 := Lib.hid (S1.out.keep hb)); (try replace S0 := Lib.hid (S0.out.keep hb)); (try replace S2 := Lib.hid (S2.out.keep hb)); (try have pf := PF.out _ EE.out.below); clear hb)
                  | (go_at_call 35; refine (HPe.out _).mono ?_; rintro e w3 ⟨rfl, hb⟩; replace EE := Lib.hid (EE.out.keep hb); have cb := EE.out.box.cell; (try replace XX := Lib.hid (XX.out.after hb)); (try have cx := XX.out.cell); (try replace S1 := Lib.hid (S1.out.keep hb)); (try replace S0 := Lib.hid (S0.out.keep hb)); (try replace S2 := Lib.hid (S2.out.keep hb)); (try have pf := PF.out _ EE.out.below); clear hb)
                  | (go_at_call 39; (first | (with_reducible refine (HMa.out _ EE.out.below).mono ?_) | (with_reducible refine (HMs.out _ EE.out.below).mono ?_)); rintro e w4 ⟨rfl, hb⟩; replace EE := Lib.hid (EE.out.keep hb); have cb := EE.out.box.cell; (try replace XX := Lib.hid (XX.out.after hb)); (try have cx := XX.out.cell); (try replace S1 := Lib.hid (S1.out.keep hb)); (try replace S0 := Lib.hid (S0.out.keep hb)); (try replace S2 := Lib.hid (S2.out.keep hb)); (try have pf := PF.out _ EE.out.below); clear hb)
                  | (go_at_call 41; refine (HPt.out _).mono ?_; rintro e w5 ⟨rfl, rfl⟩)
                  | (go_at_call 24; refine (HK.out _ EE.out.below).mono ?_; rintro e w8 ⟨rfl, hb⟩; replace EE := Lib.hid (EE.out.keep hb); clear hb)
                  | (go_at_call 38; refine (HOw.out _ EE.out.below).mono ?_; rintro e w6 ⟨rfl, hb⟩; replace EE := Lib.hid (EE.out.keep hb); have cb := EE.out.box.cell; (try replace XX := Lib.hid (XX.out.after hb)); (try have cx := XX.out.cell); (try replace S1 := Lib.hid (S1.out.keep hb)); (try replace S0 := Lib.hid (S0.out.keep hb)); (try replace S2 := Lib.hid (S2.out.keep hb)); (try have pf := PF.out _ EE.out.below); clear hb)
                  | (refine wpList_store_all rfl 56 _ _ rfl w6.heap.size rfl _ rfl 56 _ (Has.new w6 56 _) (by kernel_rfl) rfl (by simp [Value.oneCell']) ?_; have XX := Lib.hid ((Has.new w6 56 #[.int .i64 0, .int .i64 0]).setRow #[.int .i64 n0, .int .i64 n2]); replace EE := Lib.hid (EE.out.keep (rowB (newB (Below.refl w6.heap.size w6) (.cells #[.int .i64 0, .int .i64 0] 56)) (Nat.le_refl _) #[.int .i64 n0, .int .i64 n2])); generalize (w6.alloc (.cells #[.int .i64 0, .int .i64 0] 56)).setRow w6.heap.size #[.int .i64 n0, .int .i64 n2] = w7 at *; have cb := EE.out.box.cell; have cx := XX.out.cell)
                  | (go_at_call 42; (first | (with_reducible refine (HW1.out _ EE.out.below).mono ?_; rintro e w9 ⟨pA1, pc1, q1, rfl, hq, hsl, hb⟩; replace EE := Lib.hid (EE.out.keep hb); have cb := EE.out.box.cell; (try replace XX := Lib.hid (XX.out.after hb)); (try have cx := XX.out.cell); (try replace S1 := Lib.hid (S1.out.keep hb)); (try replace S0 := Lib.hid (S0.out.keep hb)); (try replace S2 := Lib.hid (S2.out.keep hb)); (try have pf := PF.out _ EE.out.below); have Q1 := Lib.hid hq; have L1 := Lib.hid hsl; clear hb hq hsl) | (with_reducible refine (HW2.out _ EE.out.below).mono ?_; rintro e w10 ⟨pA2, pc2, q2, rfl, hq, hsl, hb⟩; replace EE := Lib.hid (EE.out.keep hb); have cb := EE.out.box.cell; (try replace XX := Lib.hid (XX.out.after hb)); (try have cx := XX.out.cell); (try replace S1 := Lib.hid (S1.out.keep hb)); (try replace S0 := Lib.hid (S0.out.keep hb)); (try replace S2 := Lib.hid (S2.out.keep hb)); (try have pf := PF.out _ EE.out.below); have Q2 := Lib.hid hq; have L2 := Lib.hid hsl; clear hb hq hsl)))
                  | (go_at_call 31; (first | (with_reducible refine (HS0.out _ EE.out.below).mono ?_; rintro e w12 ⟨v, rfl, ho, hb⟩; replace EE := Lib.hid (EE.out.keep hb); have cb := EE.out.box.cell; (try replace XX := Lib.hid (XX.out.after hb)); (try have cx := XX.out.cell); (try replace S1 := Lib.hid (S1.out.keep hb)); (try replace S0 := Lib.hid (S0.out.keep hb)); (try replace S2 := Lib.hid (S2.out.keep hb)); (try have pf := PF.out _ EE.out.below); obtain ⟨A0, c0, rfl, hs0, _⟩ := ho.sl; rw [HE0.out] at hs0 ⊢; have S0 := Lib.hid hs0; clear hb ho hs0) | (with_reducible refine (HS2.out pA2 pc2 q2 Q2.out _ EE.out.below L2.out).mono ?_; rintro e w13 ⟨v, rfl, ho, hb⟩; replace EE := Lib.hid (EE.out.keep hb); have cb := EE.out.box.cell; (try replace XX := Lib.hid (XX.out.after hb)); (try have cx := XX.out.cell); (try replace S1 := Lib.hid (S1.out.keep hb)); (try replace S0 := Lib.hid (S0.out.keep hb)); (try replace S2 := Lib.hid (S2.out.keep hb)); (try have pf := PF.out _ EE.out.below); obtain ⟨A2, c2, rfl, hs2, _⟩ := ho.sl; rw [HE2.out] at hs2 ⊢; have S2 := Lib.hid hs2; clear hb ho hs2; obtain ⟨b0, o0, ha0⟩ := S0.out.addr (by omega); obtain ⟨b1, o1, ha1⟩ := S1.out.addr (by omega); obtain ⟨b2, o2, ha2⟩ := S2.out.addr (by omega); subst ha0 ha1 ha2; have z1 := cellShare S1.out HF1.out) | (with_reducible refine (HS1.out pA1 pc1 q1 Q1.out _ EE.out.below L1.out).mono ?_; rintro e w11 ⟨v, rfl, ho, hb⟩; replace EE := Lib.hid (EE.out.keep hb); have cb := EE.out.box.cell; (try replace XX := Lib.hid (XX.out.after hb)); (try have cx := XX.out.cell); (try replace S1 := Lib.hid (S1.out.keep hb)); (try replace S0 := Lib.hid (S0.out.keep hb)); (try replace S2 := Lib.hid (S2.out.keep hb)); (try have pf := PF.out _ EE.out.below); obtain ⟨A1, c1, rfl, hs1, _⟩ := ho.sl; rw [HE1.out] at hs1 ⊢; have S1 := Lib.hid hs1; clear hb ho hs1))))
                have M := Lib.hid fun (W : World) (hb : Below w13.heap.size w13 W) => (show (∀ i, W.cell? ⟨w6.heap.size, i, none⟩ = (#[.int .i64 n0, .int .i64 n2] : Array Value)[i]?) ∧ W.cell? ⟨b0, o0 + k * 5, none⟩ = some (.int .i64 n0) ∧ W.cell? ⟨b2, o2 + k * 5, none⟩ = some (.int .i64 n2) from
                  ⟨(XX.out.after hb).cell, cellShare (S0.out.keep hb) HF0.out, cellShare (S2.out.keep hb) HF2.out⟩)
                apply wp_loose 34 (.v _ :: .v _ :: .v _ :: .v _ :: .v _ :: .v _ :: .v _ :: .v _ :: .v _ :: .v _ :: .v _ :: .v _ :: .v _ :: .v _ :: .v _ :: .v _ :: .v _ :: .v _ :: .v _ :: .v _ :: .v _ :: .v _ :: .v _ :: .v _ :: .v _ :: .v _ :: .v _ :: .v _ :: .v _ :: .v _ :: .v _ :: .v _ :: .v _ :: .v _ :: []) (by kernel_rfl) (by kernel_rfl) (by kernel_rfl) (by decide) rfl
                intro K hK
                iterate 3 (apply OblS.val (by kernel_rfl); (intro w' hb _; obtain ⟨q1, q2, q3⟩ := M.out w' hb; go_simp; rfl))
                apply OblS.val (v := .bool true) (by kernel_rfl)
                · intro w' hb _; go_simp
                iterate 4 (apply OblS.val (by kernel_rfl); (intro w' hb _; obtain ⟨q1, q2, q3⟩ := M.out w' hb; go_simp; rfl))
                apply OblS.val (v := .bool true) (by kernel_rfl)
                · intro w' hb _; go_simp
                iterate 22 (apply OblS.val (by kernel_rfl); (intro w' hb _; obtain ⟨q1, q2, q3⟩ := M.out w' hb; go_simp; rfl))
                apply OblS.call 24 (by kernel_rfl)
                · intro w' hb _; apply Exists.intro; apply And.intro; (go_simp; rfl); exact HK.out w' (EE.out.keep hb).below
                iterate 2 (apply OblS.val (by kernel_rfl); (intro w' hb _; go_simp; rfl))
                apply OblS.nil
                apply hK
                intro w14 hb hH
                clear hH hK K
                simp only [Act.put, List.setIfInBounds_toArray, List.set_cons_zero, List.set_cons_succ, List.drop_succ_cons, List.drop_zero]
                have EF := Lib.hid (EE.out.keep hb)
                clear hb
                go_wp2
                exact bodyPost_ret (results_tmp rfl _ _ _) rfl ⟨rfl, EF.out.below⟩
end Go.Proofs
namespace Go.Proofs.YtplhaohcmhepbaaGreatDoor.shareTrue
open Go.ChangeShapes Go.WideShapes Go.ChangeAt Go.RowKit Go.Proofs

theorem own : ownKnob Tryz.prog.godebug = none := f_own
theorem laidOut : laidOutB Tryz.prog = true := f_laid
set_option maxRecDepth 100000 in
theorem lifted (os : Os) (started : os.Started) (H : Type) (enc : TypeId × Value → H) :
    ReturnsInHanded {} Tryz.checked os 9 .any (fun w args => (Rows.shareTrueSpec.pre enc Tryz.prog Tryz.f9 [] false w args ∧ laidMetH Tryz.prog Rows.shareTrueRow.laid w) ∧ sizedMet enc Tryz.prog Tryz.f9 (OpenSpec.ofChange Rows.shareTrueSpec) false w args)
      (Rows.shareTrueSpec.post enc Tryz.prog Tryz.f9 false true false false) := by
  refine returnsInHanded_of_change_and (C := Tryz.checked) (X := fun w _ => laidMetH Tryz.prog Rows.shareTrueRow.laid w) (fun _ _ _ hh h => h.of_heap hh) own started (by kernel_rfl) Tryz.func9
    (ChangeSpec.witness_shaped (enc := enc) (C := Tryz.checked) (os := os) (X := fun w _ => laidMetH Tryz.prog Rows.shareTrueRow.laid w) false (World.laidAll Tryz.prog os Rows.shareTrueRow.laid) #[.agg #[.slice none 0 0, .slice none 0 0], .int .i64 0, .int .i64 0, .int .i64 0] 8 (World.laidAll_os _ _ _) (World.shaped_of_ZipB (by kernel_rfl) (by kernel_rfl)) (by kernel_rfl) (by kernel_rfl) (by kernel_rfl) (by rw [MakeChecks.laidMetH_plain _ _ _ (by kernel_rfl)]; exact laidMet_laidAll _ (by kernel_rfl) (by kernel_rfl))) ?_
  intro W base args ds gs before hval0 hW _ _ hL _
  have hval : ∀ (j : Nat) t v, Tryz.f9.params[j]? = some t → args[j]? = some v → Value.okWide Tryz.prog W .any base t v := hval0
  have hW' := hW
  obtain ⟨p, q, hA0, hV, rfl, hfz, hnd⟩ := hW
  have hA : DataW.TrodAll enc Tryz.prog W 0 (fun _ => true) true Tryz.f9.params.toList args.toList ds p := hA0
  rw [Tryz.params9] at hA hval
  obtain ⟨v0, vs0, d0, ds0, p0, q0, hargs, rfl, rfl, h0, r0⟩ := trodAll_cons hA
  obtain ⟨v1, vs1, d1, ds1, p1, q1, rfl, rfl, rfl, h1, r1⟩ := trodAll_cons r0
  obtain ⟨v2, vs2, d2, ds2, p2, q2, rfl, rfl, rfl, h2, r2⟩ := trodAll_cons r1
  obtain ⟨v3, vs3, d3, ds3, p3, q3, rfl, rfl, rfl, h3, r3⟩ := trodAll_cons r2
  obtain ⟨rfl, rfl, rfl⟩ := trodAll_nil r3
  obtain rfl : args = #[v0, v1, v2, v3] := by cases args; simp_all
  obtain ⟨rfl, rfl⟩ := trodVars_none hV
  have k0 := h0
  have lt0 : ∀ x ∈ p0, x.block < W.heap.size := by obtain ⟨m, hm⟩ := k0; exact DataW.trod_lt m _ _ _ hm
  have u0 := hval 0 25 v0 rfl rfl
  obtain ⟨s0, rfl, hd0, wp0, wl0, hx0⟩ := arg_season u0 h0
  have k1 := h1
  have lt1 : ∀ x ∈ p1, x.block < W.heap.size := by obtain ⟨m, hm⟩ := k1; exact DataW.trod_lt m _ _ _ hm
  have u1 := hval 1 3 v1 rfl rfl
  obtain ⟨a1, rfl, w1⟩ := arg_int u1 h1
  have k2 := h2
  have lt2 : ∀ x ∈ p2, x.block < W.heap.size := by obtain ⟨m, hm⟩ := k2; exact DataW.trod_lt m _ _ _ hm
  have u2 := hval 2 3 v2 rfl rfl
  obtain ⟨a2, rfl, w2⟩ := arg_int u2 h2
  have k3 := h3
  have lt3 : ∀ x ∈ p3, x.block < W.heap.size := by obtain ⟨m, hm⟩ := k3; exact DataW.trod_lt m _ _ _ hm
  have u3 := hval 3 3 v3 rfl rfl
  obtain ⟨a3, rfl, w3⟩ := arg_int u3 h3
  have htab := tab_of_laid (show laidMet Tryz.prog Rows.shareTrueRow.laid W from hL)
  clear hA0 hval0
  simp only [List.append_nil] at hW'
  refine (shareTrue_walk s0 a1 a2 a3 W hd0 (itoa_tab htab)).mono fun e W' ⟨he, bel⟩ => ?_
  subst he
  exact ⟨_, rfl, _, _, _, [], _, [], hW', trodAll_mk1 (shut_bool Tryz.underlying4 _), (trodAll_cons_mk (Below.trod laidOut (by kernel_rfl) (of_decide_eq_true (by kernel_rfl)) k0 bel lt0) (trodAll_cons_mk (Below.trod laidOut (by kernel_rfl) (of_decide_eq_true (by kernel_rfl)) k1 bel lt1) (trodAll_cons_mk (Below.trod laidOut (by kernel_rfl) (of_decide_eq_true (by kernel_rfl)) k2 bel lt2) (trodAll_cons_mk (Below.trod laidOut (by kernel_rfl) (of_decide_eq_true (by kernel_rfl)) k3 bel lt3) trodAll_mk0)))), rfl, bel.frame _, fun h => by cases h⟩

theorem both_true {a b : Bool} (h : a = true) (g : b = true) : (a && b) = true := by rw [h, g]; rfl
set_option maxHeartbeats 16000000 in
theorem closed : joinedFacts Tryz.prog 9 Tryz.f9 Rows.shareTrueSpec Rows.shareTrueRow = true := by
  unfold joinedFacts
  repeat' (with_reducible refine both_true ?_ ?_)
  all_goals first | (with_reducible exact f_laid) | (with_reducible exact f_rowed) | (with_reducible exact f_heard) | (with_reducible exact f_enter) | (with_reducible rw [f_keys]; as_aux_lemma => kernel_rfl) | (with_reducible rw [f_lift]; as_aux_lemma => kernel_rfl) | (with_reducible rw [f_make]; as_aux_lemma => kernel_rfl) | (as_aux_lemma => kernel_rfl)

theorem row_holds : Rows.ShareTrueSaid :=
  OpenClaim.holds_of_wide 9 Tryz.f9 rfl rfl rfl rfl rfl rfl rfl ⟨rfl, rfl, rfl, rfl, rfl⟩ rfl rfl rfl rfl rfl (by as_aux_lemma => kernel_rfl) Tryz.func9 closed
    (of_decide_eq_true (by kernel_rfl)) (by unfold Func.isWrapper; first | (rw [if_pos (by decide +kernel)]; kernel_rfl) | (rw [if_neg (by decide +kernel)]; exact ⟨rfl, rfl⟩))
    (fun os started H enc _ => lifted os started H enc)

set_option maxHeartbeats 8000000 in
theorem shareTrue_holds : Rows.ShareTrueCardSaid :=
  Claim7.holds_tied_plain_at .later [] [.data, .data, .data, .data, .pinned] true (true, "7e62b5f23aa16cc2579dbf745918b39c2216085a6a4405f0c28cfd6d2389e0e4") true
    row_holds (fun _ h => by cases h) (by as_aux_lemma => kernel_rfl) (fun _ h => by cases h) shareTrue_row_tie rfl ⟨rfl, rfl⟩ (by as_aux_lemma => kernel_rfl) rfl
    (fun f fn hf hfn => by
      obtain rfl : f = 9 := Option.some.inj ((show Tryz.prog.funcNamed "bathyal/bathyallaw05.ShareTrue" = some 9 by kernel_rfl).symm.trans hf) |>.symm
      obtain rfl : fn = Tryz.f9 := (Option.some.inj (Tryz.func9.symm.trans hfn)).symm
      exact ⟨by kernel_rfl, fun j t ht => by
        rw [Tryz.params9] at ht
        have hm : t ∈ [25, 3, 3, 3] := by simpa using Array.mem_of_getElem? ht
        have hall : ([25, 3, 3, 3].all fun u => !Tryz.prog.wantsStandIn u) = true := by kernel_rfl
        exact (show Tryz.prog.wantsStandIn t = false by simpa using List.all_eq_true.1 hall t hm)⟩)
    (by as_aux_lemma => kernel_rfl)
#print axioms shareTrue_holds
end Go.Proofs.YtplhaohcmhepbaaGreatDoor.shareTrue
