/-
  The statement ShareTrips holds for every input: the law returns true and what came in reads as before.
-/
import Derived.Test.YtplhaohcmhepbaaGreatDoorP15
import Derived.Test.YtplhaohcmhepbaaGreatDoorP18
import Derived.Test.YtplhaohcmhepbaaGreatDoorP13
import Derived.Test.YtplhaohcmhepbaaGreatDoorP17
import Derived.Test.YtplhaohcmhepbaaGreatDoorRows
import Derived.Test.YtplhaohcmhepbaaGreatDoorTie
import Derived.Test.YtplhaohcmhepbaaGreatDoorCards
import Derived.Test.YtplhaohcmhepbaaGreatDoorChecked
import Derived.ProofKit
import Derived.OpenShut
import Derived.LaidMore
import Derived.Stop.Joined
import Derived.SevenTiedAt
import Derived.Carry
import Derived.Lay
namespace Go.Proofs
open Go.RowKit Go.Shelf
attribute [local go_sem ↓] Go.wp_at_zero Go.wp_at_succ

theorem trips_bad {ps : List Pe} {ls : List La} {p coins : Int} (h : sharerB ps ls p = false ∨ p = 0 ∨ coins < 0) : tripsF ps ls p coins = ([], 2) := by
  unfold tripsF
  rcases h with h | h | h <;> simp [h]
theorem trips_e (s : Sv) (p coins : Int) (hpn : s.pn ≤ 1000000) (hln : s.ln ≤ 1000000) (xs : List Int) (er : Int) (n : Nat) (he : tripsF s.ps s.ls p coins = (xs, er)) (hn : n = xs.length) (w : World) (hi : s.In w) :
    Calls Tryz.prog 43 #[s.val, .int .i64 p, .int .i64 coins] w fun e w' => ∃ A c, e = .returned (.tuple #[.slice A n c, .int .i64 er]) ∧ SlOf inC 1 w' A n xs ∧ Below w.heap.size w w' := by
  refine (Trips_c s p coins hpn hln w hi).mono ?_
  rintro e w' ⟨v, rfl, ho, hb⟩
  rw [he] at ho ⊢
  obtain ⟨A, c, rfl, hs, _⟩ := ho.sl
  subst hn
  exact ⟨A, c, rfl, hs, hb⟩
theorem trips_n (s : Sv) (p coins : Int) (hpn : s.pn ≤ 1000000) (hln : s.ln ≤ 1000000) (he : sharerB s.ps s.ls p = false ∨ p = 0 ∨ coins < 0) (w : World) (hi : s.In w) :
    Calls Tryz.prog 43 #[s.val, .int .i64 p, .int .i64 coins] w fun e w' => ∃ A c, e = .returned (.tuple #[.slice A 0 c, .int .i64 2]) ∧ Below w.heap.size w w' := by
  refine (trips_e s p coins hpn hln [] 2 0 (trips_bad he) rfl w hi).mono ?_
  rintro e w' ⟨A, c, rfl, _, hb⟩
  exact ⟨A, c, rfl, hb⟩
theorem refTrips_e (s : Sv) (hs : Seas s.ps s.ls) (k : Nat) (hk : k < s.pn) (hk0 : k ≠ 0) (sh : Int) (w : World) (hi : s.In w) :
    Calls Tryz.prog 44 #[s.val, .int .i64 k, .int .i64 sh] w fun e w' => ∃ A n c f B, e = .returned (.tuple #[.slice A n c, .bool f]) ∧ n = B.length ∧ tripsN (bestL ltLen (tripsL s.ps s.ls k sh)) = (if f then (B, 0) else ([], 5)) ∧ SlOf inC 1 w' A n B ∧ Below w.heap.size w w' := by
  refine (refTrips_c s hs k hk hk0 sh w hi).mono ?_
  rintro e w' ⟨v, f, B, rfl, hT, ho, hb⟩
  obtain ⟨A, c, rfl, hsl, _⟩ := ho.sl
  exact ⟨A, _, c, f, B, rfl, rfl, hT.same hs.few, hsl, hb⟩
set_option maxHeartbeats 4000000 in
set_option maxRecDepth 20000 in
theorem shareTrips_walk (s : Sv) (p coins : Int) (w : World) (hi : s.In w) (hI : ItoaAll w) : Calls Tryz.prog 10 #[s.val, .int .i64 p, .int .i64 coins] w fun e w' => e = .returned (.bool true) ∧ Below w.heap.size w w' := by
  have HSh := Lib.hid fun (W : World) => short_c s W
  have HK := Lib.hid fun (W : World) (hb : Below w.heap.size w W) => knownLaw_c W (hI.keep hb)
  cases h0 : shortB s
  · rw [h0] at HSh
    clear h0 hi hI
    obtain ⟨pA, lA, pn, pc, ln, lc, ps, ls⟩ := s
    simp only [Sv.val] at *
    have EE := Lib.hid (SBx.start w #[.slice pA pn pc, .slice lA ln lc])
    have cb := EE.out.box.cell
    go_enter Tryz.func10, Tryz.ntmps10
    go_wp2_with (first
      | (refine wpList_load_row rfl 25 _ rfl w.heap.size rfl 25 _ (0, 0) _ EE.out.box Tryz.underlying25 rfl (by kernel_rfl) ?_)
      | (go_at_call 23; refine (HSh.out _).mono ?_; rintro e w1 ⟨rfl, hb⟩; replace EE := Lib.hid (EE.out.keep hb); have cb := EE.out.box.cell; (try replace S1 := Lib.hid (S1.out.keep hb)); (try replace S2 := Lib.hid (S2.out.keep hb));  clear hb)
      | (go_at_call 43; refine (HTr.out _ EE.out.below).mono ?_; rintro e w2 ⟨A1, c1, rfl, hb⟩; replace EE := Lib.hid (EE.out.keep hb); have cb := EE.out.box.cell; (try replace S1 := Lib.hid (S1.out.keep hb)); (try replace S2 := Lib.hid (S2.out.keep hb));  clear hb)
      | (go_at_call 27; refine (HSe.out _ EE.out.below).mono ?_; rintro e w4 ⟨rfl, hb⟩; replace EE := Lib.hid (EE.out.keep hb); have cb := EE.out.box.cell; (try replace S1 := Lib.hid (S1.out.keep hb)); (try replace S2 := Lib.hid (S2.out.keep hb));  clear hb)
      | (go_at_call 35; refine (HPe.out _).mono ?_; rintro e w5 ⟨rfl, hb⟩; replace EE := Lib.hid (EE.out.keep hb); have cb := EE.out.box.cell; (try replace S1 := Lib.hid (S1.out.keep hb)); (try replace S2 := Lib.hid (S2.out.keep hb));  clear hb)
      | (go_at_call 44; refine Hold.out ?_)
      | (go_at_call 24; refine (HK.out _ EE.out.below).mono ?_; rintro e w8 ⟨rfl, hb⟩; replace EE := Lib.hid (EE.out.keep hb); clear hb))
    exact bodyPost_ret (results_tmp rfl _ _ _) rfl ⟨rfl, EE.out.below⟩
  · have hsm : s.pn ≤ 9 ∧ s.ln ≤ 9 := by simpa [shortB] using h0
    rw [h0] at HSh
    have HSe := Lib.hid fun (W : World) (hb : Below w.heap.size w W) => refSeason_c s (by omega) (by omega) W (hi.keep hb)
    have HPe := Lib.hid fun (W : World) => person_c s p (by omega) W
    have HT1 := Lib.hid fun (h : sharerB s.ps s.ls p = false ∨ p = 0 ∨ coins < 0) (W : World) (hb : Below w.heap.size w W) => trips_n s p coins (by omega) (by omega) h W (hi.keep hb)
    cases h1 : seasonB s.ps s.ls
    · have HTr := Lib.hid (HT1.out (.inl (by simp [sharerB, h1])))
      rw [h1] at HSe
      clear h0 h1 hi hI hsm HT1 HPe
      obtain ⟨pA, lA, pn, pc, ln, lc, ps, ls⟩ := s
      simp only [Sv.val] at *
      have EE := Lib.hid (SBx.start w #[.slice pA pn pc, .slice lA ln lc])
      have cb := EE.out.box.cell
      go_enter Tryz.func10, Tryz.ntmps10
      go_wp2_with (first
        | (refine wpList_load_row rfl 25 _ rfl w.heap.size rfl 25 _ (0, 0) _ EE.out.box Tryz.underlying25 rfl (by kernel_rfl) ?_)
        | (go_at_call 23; refine (HSh.out _).mono ?_; rintro e w1 ⟨rfl, hb⟩; replace EE := Lib.hid (EE.out.keep hb); have cb := EE.out.box.cell; (try replace S1 := Lib.hid (S1.out.keep hb)); (try replace S2 := Lib.hid (S2.out.keep hb));  clear hb)
        | (go_at_call 43; refine (HTr.out _ EE.out.below).mono ?_; rintro e w2 ⟨A1, c1, rfl, hb⟩; replace EE := Lib.hid (EE.out.keep hb); have cb := EE.out.box.cell; (try replace S1 := Lib.hid (S1.out.keep hb)); (try replace S2 := Lib.hid (S2.out.keep hb));  clear hb)
        | (go_at_call 27; refine (HSe.out _ EE.out.below).mono ?_; rintro e w4 ⟨rfl, hb⟩; replace EE := Lib.hid (EE.out.keep hb); have cb := EE.out.box.cell; (try replace S1 := Lib.hid (S1.out.keep hb)); (try replace S2 := Lib.hid (S2.out.keep hb));  clear hb)
        | (go_at_call 35; refine (HPe.out _).mono ?_; rintro e w5 ⟨rfl, hb⟩; replace EE := Lib.hid (EE.out.keep hb); have cb := EE.out.box.cell; (try replace S1 := Lib.hid (S1.out.keep hb)); (try replace S2 := Lib.hid (S2.out.keep hb));  clear hb)
        | (go_at_call 44; refine Hold.out ?_)
        | (go_at_call 24; refine (HK.out _ EE.out.below).mono ?_; rintro e w8 ⟨rfl, hb⟩; replace EE := Lib.hid (EE.out.keep hb); clear hb))
      exact bodyPost_ret (results_tmp rfl _ _ _) rfl ⟨rfl, EE.out.below⟩
    · have hs := (seas_iff _ _).1 h1
      have hpl : s.ps.length = s.pn := hi.ps.1
      have hp6 : s.pn ≤ 6 := by rw [← hpl]; exact hs.six
      have hp2 : 2 ≤ s.pn := by rw [← hpl]; exact hs.two
      rw [h1] at HSe
      cases h2 : inB p 0 ((s.pn : Int) - 1)
      · have HTr := Lib.hid (HT1.out (.inl (by unfold sharerB; rw [hpl, h2]; simp)))
        rw [h2] at HPe
        clear h0 h1 h2 hi hI hsm HT1 hs hpl
        obtain ⟨pA, lA, pn, pc, ln, lc, ps, ls⟩ := s
        simp only [Sv.val] at *
        have EE := Lib.hid (SBx.start w #[.slice pA pn pc, .slice lA ln lc])
        have cb := EE.out.box.cell
        go_enter Tryz.func10, Tryz.ntmps10
        go_wp2_with (first
          | (refine wpList_load_row rfl 25 _ rfl w.heap.size rfl 25 _ (0, 0) _ EE.out.box Tryz.underlying25 rfl (by kernel_rfl) ?_)
          | (go_at_call 23; refine (HSh.out _).mono ?_; rintro e w1 ⟨rfl, hb⟩; replace EE := Lib.hid (EE.out.keep hb); have cb := EE.out.box.cell; (try replace S1 := Lib.hid (S1.out.keep hb)); (try replace S2 := Lib.hid (S2.out.keep hb));  clear hb)
          | (go_at_call 43; refine (HTr.out _ EE.out.below).mono ?_; rintro e w2 ⟨A1, c1, rfl, hb⟩; replace EE := Lib.hid (EE.out.keep hb); have cb := EE.out.box.cell; (try replace S1 := Lib.hid (S1.out.keep hb)); (try replace S2 := Lib.hid (S2.out.keep hb));  clear hb)
          | (go_at_call 27; refine (HSe.out _ EE.out.below).mono ?_; rintro e w4 ⟨rfl, hb⟩; replace EE := Lib.hid (EE.out.keep hb); have cb := EE.out.box.cell; (try replace S1 := Lib.hid (S1.out.keep hb)); (try replace S2 := Lib.hid (S2.out.keep hb));  clear hb)
          | (go_at_call 35; refine (HPe.out _).mono ?_; rintro e w5 ⟨rfl, hb⟩; replace EE := Lib.hid (EE.out.keep hb); have cb := EE.out.box.cell; (try replace S1 := Lib.hid (S1.out.keep hb)); (try replace S2 := Lib.hid (S2.out.keep hb));  clear hb)
          | (go_at_call 44; refine Hold.out ?_)
          | (go_at_call 24; refine (HK.out _ EE.out.below).mono ?_; rintro e w8 ⟨rfl, hb⟩; replace EE := Lib.hid (EE.out.keep hb); clear hb))
        exact bodyPost_ret (results_tmp rfl _ _ _) rfl ⟨rfl, EE.out.below⟩
      · have hpb : 0 ≤ p ∧ p ≤ (s.pn : Int) - 1 := by simpa [inB] using h2
        rw [h2] at HPe
        by_cases hp0 : p = 0
        · have HTr := Lib.hid (HT1.out (.inr (.inl hp0)))
          subst hp0
          clear h0 h1 h2 hi hI hsm HT1 hs hpl hpb
          obtain ⟨pA, lA, pn, pc, ln, lc, ps, ls⟩ := s
          simp only [Sv.val] at *
          have EE := Lib.hid (SBx.start w #[.slice pA pn pc, .slice lA ln lc])
          have cb := EE.out.box.cell
          go_enter Tryz.func10, Tryz.ntmps10
          go_wp2_with (first
            | (refine wpList_load_row rfl 25 _ rfl w.heap.size rfl 25 _ (0, 0) _ EE.out.box Tryz.underlying25 rfl (by kernel_rfl) ?_)
            | (go_at_call 23; refine (HSh.out _).mono ?_; rintro e w1 ⟨rfl, hb⟩; replace EE := Lib.hid (EE.out.keep hb); have cb := EE.out.box.cell; (try replace S1 := Lib.hid (S1.out.keep hb)); (try replace S2 := Lib.hid (S2.out.keep hb));  clear hb)
            | (go_at_call 43; refine (HTr.out _ EE.out.below).mono ?_; rintro e w2 ⟨A1, c1, rfl, hb⟩; replace EE := Lib.hid (EE.out.keep hb); have cb := EE.out.box.cell; (try replace S1 := Lib.hid (S1.out.keep hb)); (try replace S2 := Lib.hid (S2.out.keep hb));  clear hb)
            | (go_at_call 27; refine (HSe.out _ EE.out.below).mono ?_; rintro e w4 ⟨rfl, hb⟩; replace EE := Lib.hid (EE.out.keep hb); have cb := EE.out.box.cell; (try replace S1 := Lib.hid (S1.out.keep hb)); (try replace S2 := Lib.hid (S2.out.keep hb));  clear hb)
            | (go_at_call 35; refine (HPe.out _).mono ?_; rintro e w5 ⟨rfl, hb⟩; replace EE := Lib.hid (EE.out.keep hb); have cb := EE.out.box.cell; (try replace S1 := Lib.hid (S1.out.keep hb)); (try replace S2 := Lib.hid (S2.out.keep hb));  clear hb)
            | (go_at_call 44; refine Hold.out ?_)
            | (go_at_call 24; refine (HK.out _ EE.out.below).mono ?_; rintro e w8 ⟨rfl, hb⟩; replace EE := Lib.hid (EE.out.keep hb); clear hb))
          exact bodyPost_ret (results_tmp rfl _ _ _) rfl ⟨rfl, EE.out.below⟩
        · obtain ⟨k, rfl⟩ : ∃ k : Nat, p = k := ⟨p.toNat, by omega⟩
          have hk : k < s.pn := by omega
          have hk0 : ¬ k = 0 := by omega
          have e0 : ((k : Int) == 0) = false := by rw [beq_eq_false_iff_ne]; exact hp0
          have hkl : k < s.ps.length := by omega
          have hx := List.getElem?_eq_getElem hkl
          obtain ⟨x, hxx⟩ : ∃ x, x = s.ps[k] := ⟨_, rfl⟩
          rw [← hxx] at hx
          have hgx : s.ps.getD k ⟨0, 0, 0⟩ = x := by rw [List.getD_eq_getElem?_getD, hx]; rfl
          have hpe := hs.pe x (List.mem_of_getElem? hx)
          obtain ⟨pb, po, hpa⟩ := hi.ps.addr (by omega)
          have PF := Lib.hid fun (W : World) (hb : Below w.heap.size w W) => (show W.cell? ⟨pb, po + k * 3 + 2, none⟩ = some (.int .i64 x.f) from by
            have h := hi.ps.keep hb
            rw [hpa] at h
            exact h.range Pe.cs_len hx 2 _ rfl)
          by_cases hf : x.f = 2
          · have HTr := Lib.hid (HT1.out (.inl (by unfold sharerB; rw [Int.toNat_natCast, hgx, hf]; simp [shB])))
            rw [hf] at PF
            clear h0 h1 h2 hi hI hsm HT1 hs hpl hx hxx hgx hkl hpb hpe
            obtain ⟨pA, lA, pn, pc, ln, lc, ps, ls⟩ := s
            simp only [Sv.val] at *
            subst hpa
            have EE := Lib.hid (SBx.start w #[.slice (some ⟨pb, po, none⟩) pn pc, .slice lA ln lc])
            have cb := EE.out.box.cell
            go_enter Tryz.func10, Tryz.ntmps10
            go_wp2_with (first
              | (refine wpList_load_row rfl 25 _ rfl w.heap.size rfl 25 _ (0, 0) _ EE.out.box Tryz.underlying25 rfl (by kernel_rfl) ?_)
              | (go_at_call 23; refine (HSh.out _).mono ?_; rintro e w1 ⟨rfl, hb⟩; replace EE := Lib.hid (EE.out.keep hb); have cb := EE.out.box.cell; (try replace S1 := Lib.hid (S1.out.keep hb)); (try replace S2 := Lib.hid (S2.out.keep hb)); have pf := PF.out _ EE.out.below; clear hb)
              | (go_at_call 43; refine (HTr.out _ EE.out.below).mono ?_; rintro e w2 ⟨A1, c1, rfl, hb⟩; replace EE := Lib.hid (EE.out.keep hb); have cb := EE.out.box.cell; (try replace S1 := Lib.hid (S1.out.keep hb)); (try replace S2 := Lib.hid (S2.out.keep hb)); have pf := PF.out _ EE.out.below; clear hb)
              | (go_at_call 27; refine (HSe.out _ EE.out.below).mono ?_; rintro e w4 ⟨rfl, hb⟩; replace EE := Lib.hid (EE.out.keep hb); have cb := EE.out.box.cell; (try replace S1 := Lib.hid (S1.out.keep hb)); (try replace S2 := Lib.hid (S2.out.keep hb)); have pf := PF.out _ EE.out.below; clear hb)
              | (go_at_call 35; refine (HPe.out _).mono ?_; rintro e w5 ⟨rfl, hb⟩; replace EE := Lib.hid (EE.out.keep hb); have cb := EE.out.box.cell; (try replace S1 := Lib.hid (S1.out.keep hb)); (try replace S2 := Lib.hid (S2.out.keep hb)); have pf := PF.out _ EE.out.below; clear hb)
              | (go_at_call 44; refine Hold.out ?_)
              | (go_at_call 24; refine (HK.out _ EE.out.below).mono ?_; rintro e w8 ⟨rfl, hb⟩; replace EE := Lib.hid (EE.out.keep hb); clear hb))
            exact bodyPost_ret (results_tmp rfl _ _ _) rfl ⟨rfl, EE.out.below⟩
          · have hf2 : (x.f == 2) = false := by simp [hf]
            have hsh : shB x.f = true := by
              have : x.f = 1 ∨ x.f = 3 := by omega
              rcases this with h | h <;> rw [h] <;> rfl
            by_cases hc : coins < 0
            · have HTr := Lib.hid (HT1.out (.inr (.inr hc)))
              generalize x.f = xf at *
              clear h0 h1 h2 hi hI hsm HT1 hs hpl hx hxx hgx hkl hpb hpe hf hsh
              obtain ⟨pA, lA, pn, pc, ln, lc, ps, ls⟩ := s
              simp only [Sv.val] at *
              subst hpa
              have EE := Lib.hid (SBx.start w #[.slice (some ⟨pb, po, none⟩) pn pc, .slice lA ln lc])
              have cb := EE.out.box.cell
              go_enter Tryz.func10, Tryz.ntmps10
              go_wp2_with (first
                | (refine wpList_load_row rfl 25 _ rfl w.heap.size rfl 25 _ (0, 0) _ EE.out.box Tryz.underlying25 rfl (by kernel_rfl) ?_)
                | (go_at_call 23; refine (HSh.out _).mono ?_; rintro e w1 ⟨rfl, hb⟩; replace EE := Lib.hid (EE.out.keep hb); have cb := EE.out.box.cell; (try replace S1 := Lib.hid (S1.out.keep hb)); (try replace S2 := Lib.hid (S2.out.keep hb)); have pf := PF.out _ EE.out.below; clear hb)
                | (go_at_call 43; refine (HTr.out _ EE.out.below).mono ?_; rintro e w2 ⟨A1, c1, rfl, hb⟩; replace EE := Lib.hid (EE.out.keep hb); have cb := EE.out.box.cell; (try replace S1 := Lib.hid (S1.out.keep hb)); (try replace S2 := Lib.hid (S2.out.keep hb)); have pf := PF.out _ EE.out.below; clear hb)
                | (go_at_call 27; refine (HSe.out _ EE.out.below).mono ?_; rintro e w4 ⟨rfl, hb⟩; replace EE := Lib.hid (EE.out.keep hb); have cb := EE.out.box.cell; (try replace S1 := Lib.hid (S1.out.keep hb)); (try replace S2 := Lib.hid (S2.out.keep hb)); have pf := PF.out _ EE.out.below; clear hb)
                | (go_at_call 35; refine (HPe.out _).mono ?_; rintro e w5 ⟨rfl, hb⟩; replace EE := Lib.hid (EE.out.keep hb); have cb := EE.out.box.cell; (try replace S1 := Lib.hid (S1.out.keep hb)); (try replace S2 := Lib.hid (S2.out.keep hb)); have pf := PF.out _ EE.out.below; clear hb)
                | (go_at_call 44; refine Hold.out ?_)
                | (go_at_call 24; refine (HK.out _ EE.out.below).mono ?_; rintro e w8 ⟨rfl, hb⟩; replace EE := Lib.hid (EE.out.keep hb); clear hb))
              exact bodyPost_ret (results_tmp rfl _ _ _) rfl ⟨rfl, EE.out.below⟩
            · have hsr : sharerB s.ps s.ls (k : Int) = true := by
                unfold sharerB
                rw [h1, Int.toNat_natCast, hgx, hsh, hpl, h2]; rfl
              obtain ⟨xs, er, hT⟩ : ∃ xs er, tripsF s.ps s.ls k coins = (xs, er) := ⟨_, _, rfl⟩
              obtain ⟨n, hn⟩ : ∃ n, n = xs.length := ⟨_, rfl⟩
              have HTr := Lib.hid fun (W : World) (hb : Below w.heap.size w W) => trips_e s k coins (by omega) (by omega) xs er n hT hn W (hi.keep hb)
              have HRt := Lib.hid fun (W : World) (hb : Below w.heap.size w W) => refTrips_e s hs k hk hk0 coins W (hi.keep hb)
              have hTN : tripsF s.ps s.ls k coins = tripsN (bestL ltLen (tripsL s.ps s.ls k coins)) := by
                unfold tripsF
                rw [hsr, Int.toNat_natCast]
                simp [hk0, hc]
              rw [← hTN, hT] at HRt
              have HN := Lib.hid hn
              have HL6 := Lib.hid (show xs.length ≤ 6 from by
                have h6 := hs.few
                obtain ⟨s1, s2⟩ := trips_spec s.ls.length (givesB s.ps s.ls k coins)
                rw [hTN] at hT
                unfold tripsL at hT
                cases hb : bestL ltLen ((listsL (ints (List.range s.ls.length))).filter (givesB s.ps s.ls k coins)) with
                | none => rw [hb] at hT; simp only [tripsN, Prod.mk.injEq] at hT; rw [← hT.1]; simp
                | some t =>
                  rw [hb] at hT; simp only [tripsN, Prod.mk.injEq] at hT; rw [← hT.1]
                  have := (s2 t hb).1.length_le
                  simp only [ints, List.length_map, List.length_range] at this
                  omega)
              generalize x.f = xf at *
              clear h0 h1 h2 hi hI hsm HT1 hs hpl hx hxx hgx hkl hpb hpe hf hsh hT hTN hn hsr
              obtain ⟨pA, lA, pn, pc, ln, lc, ps, ls⟩ := s
              simp only [Sv.val] at *
              subst hpa
              have EE := Lib.hid (SBx.start w #[.slice (some ⟨pb, po, none⟩) pn pc, .slice lA ln lc])
              have cb := EE.out.box.cell
              go_enter Tryz.func10, Tryz.ntmps10
              go_wp2_with (first
                | (refine wpList_load_row rfl 25 _ rfl w.heap.size rfl 25 _ (0, 0) _ EE.out.box Tryz.underlying25 rfl (by kernel_rfl) ?_)
                | (go_at_call 23; refine (HSh.out _).mono ?_; rintro e w1 ⟨rfl, hb⟩; replace EE := Lib.hid (EE.out.keep hb); have cb := EE.out.box.cell; (try replace S1 := Lib.hid (S1.out.keep hb)); (try replace S2 := Lib.hid (S2.out.keep hb)); have pf := PF.out _ EE.out.below; clear hb)
                | (go_at_call 43; refine (HTr.out _ EE.out.below).mono ?_; rintro e w2 ⟨A1, c1, rfl, hs1, hb⟩; replace EE := Lib.hid (EE.out.keep hb); have cb := EE.out.box.cell; (try replace S1 := Lib.hid (S1.out.keep hb)); (try replace S2 := Lib.hid (S2.out.keep hb)); have pf := PF.out _ EE.out.below; have S1 := Lib.hid hs1; clear hb hs1)
                | (go_at_call 27; refine (HSe.out _ EE.out.below).mono ?_; rintro e w4 ⟨rfl, hb⟩; replace EE := Lib.hid (EE.out.keep hb); have cb := EE.out.box.cell; (try replace S1 := Lib.hid (S1.out.keep hb)); (try replace S2 := Lib.hid (S2.out.keep hb)); have pf := PF.out _ EE.out.below; clear hb)
                | (go_at_call 35; refine (HPe.out _).mono ?_; rintro e w5 ⟨rfl, hb⟩; replace EE := Lib.hid (EE.out.keep hb); have cb := EE.out.box.cell; (try replace S1 := Lib.hid (S1.out.keep hb)); (try replace S2 := Lib.hid (S2.out.keep hb)); have pf := PF.out _ EE.out.below; clear hb)
                | (go_at_call 44; refine Hold.out ?_)
                | (go_at_call 24; refine (HK.out _ EE.out.below).mono ?_; rintro e w8 ⟨rfl, hb⟩; replace EE := Lib.hid (EE.out.keep hb); clear hb))
              refine ⟨?_⟩
              refine (HRt.out _ EE.out.below).mono ?_
              rintro e w6 ⟨A2, m, c2, f, B, rfl, hm, hq, hs2, hb⟩
              replace EE := Lib.hid (EE.out.keep hb); have cb := EE.out.box.cell; (try replace S1 := Lib.hid (S1.out.keep hb)); (try replace S2 := Lib.hid (S2.out.keep hb)); 
              have S2 := Lib.hid hs2
              have hn := HN.out
              clear hs2 hb HRt HN
              cases f
              · simp only [Bool.false_eq_true, if_false, Prod.mk.injEq] at hq
                obtain ⟨rfl, rfl⟩ := hq
                simp only [List.length_nil] at hn
                subst hn
                go_wp2_with (go_at_call 24; refine (HK.out _ EE.out.below).mono ?_; rintro e w8 ⟨rfl, hb⟩; replace EE := Lib.hid (EE.out.keep hb); clear hb)
                exact bodyPost_ret (results_tmp rfl _ _ _) rfl ⟨rfl, EE.out.below⟩
              · simp only [if_true, Prod.mk.injEq] at hq
                obtain ⟨rfl, rfl⟩ := hq
                rw [← hn] at hm
                subst hm
                have hn6 : m ≤ 6 := by rw [hn]; exact HL6.out
                have HSm := Lib.hid (same_c A1 A2 m m c1 c2 xs xs (by omega) _ S1.out S2.out)
                clear hn hn6
                rw [decide_eq_true rfl] at HSm
                go_wp2_with (first
                  | (go_at_call 29; refine (HSm.out).mono ?_; rintro e w7 ⟨rfl, hb⟩; replace EE := Lib.hid (EE.out.keep hb); clear hb)
                  | (go_at_call 24; refine (HK.out _ EE.out.below).mono ?_; rintro e w8 ⟨rfl, hb⟩; replace EE := Lib.hid (EE.out.keep hb); clear hb))
                exact bodyPost_ret (results_tmp rfl _ _ _) rfl ⟨rfl, EE.out.below⟩
end Go.Proofs
namespace Go.Proofs.YtplhaohcmhepbaaGreatDoor.shareTrips
open Go.ChangeShapes Go.WideShapes Go.ChangeAt Go.RowKit Go.Proofs

theorem own : ownKnob Tryz.prog.godebug = none := f_own
theorem laidOut : laidOutB Tryz.prog = true := f_laid
set_option maxRecDepth 100000 in
theorem lifted (os : Os) (started : os.Started) (H : Type) (enc : TypeId × Value → H) :
    ReturnsInHanded {} Tryz.checked os 10 .any (fun w args => (Rows.shareTripsSpec.pre enc Tryz.prog Tryz.f10 [] false w args ∧ laidMetH Tryz.prog Rows.shareTripsRow.laid w) ∧ sizedMet enc Tryz.prog Tryz.f10 (OpenSpec.ofChange Rows.shareTripsSpec) false w args)
      (Rows.shareTripsSpec.post enc Tryz.prog Tryz.f10 false true false false) := by
  refine returnsInHanded_of_change_and (C := Tryz.checked) (X := fun w _ => laidMetH Tryz.prog Rows.shareTripsRow.laid w) (fun _ _ _ hh h => h.of_heap hh) own started (by kernel_rfl) Tryz.func10
    (ChangeSpec.witness_shaped (enc := enc) (C := Tryz.checked) (os := os) (X := fun w _ => laidMetH Tryz.prog Rows.shareTripsRow.laid w) false (World.laidAll Tryz.prog os Rows.shareTripsRow.laid) #[.agg #[.slice none 0 0, .slice none 0 0], .int .i64 0, .int .i64 0] 8 (World.laidAll_os _ _ _) (World.shaped_of_ZipB (by kernel_rfl) (by kernel_rfl)) (by kernel_rfl) (by kernel_rfl) (by kernel_rfl) (by rw [MakeChecks.laidMetH_plain _ _ _ (by kernel_rfl)]; exact laidMet_laidAll _ (by kernel_rfl) (by kernel_rfl))) ?_
  intro W base args ds gs before hval0 hW _ _ hL _
  have hval : ∀ (j : Nat) t v, Tryz.f10.params[j]? = some t → args[j]? = some v → Value.okWide Tryz.prog W .any base t v := hval0
  have hW' := hW
  obtain ⟨p, q, hA0, hV, rfl, hfz, hnd⟩ := hW
  have hA : DataW.TrodAll enc Tryz.prog W 0 (fun _ => true) true Tryz.f10.params.toList args.toList ds p := hA0
  rw [Tryz.params10] at hA hval
  obtain ⟨v0, vs0, d0, ds0, p0, q0, hargs, rfl, rfl, h0, r0⟩ := trodAll_cons hA
  obtain ⟨v1, vs1, d1, ds1, p1, q1, rfl, rfl, rfl, h1, r1⟩ := trodAll_cons r0
  obtain ⟨v2, vs2, d2, ds2, p2, q2, rfl, rfl, rfl, h2, r2⟩ := trodAll_cons r1
  obtain ⟨rfl, rfl, rfl⟩ := trodAll_nil r2
  obtain rfl : args = #[v0, v1, v2] := by cases args; simp_all
  obtain ⟨rfl, rfl⟩ := trodVars_none hV
  have k0 := h0
  have lt0 : ∀ x ∈ p0, x.block < W.heap.size := by obtain ⟨m, hm⟩ := k0; exact DataW.trod_lt m _ _ _ hm
  have u0 := hval 0 25 v0 rfl rfl
  obtain ⟨s0, rfl, hd0, wp0, wl0, hx0⟩ := arg_season u0 h0
  have k1 := h1
  have lt1 : ∀ x ∈ p1, x.block < W.heap.size := by obtain ⟨m, hm⟩ := k1; exact DataW.trod_lt m _ _ _ hm
  have u1 := hval 1 3 v1 rfl rfl
  obtain ⟨a1, rfl, w1⟩ := arg_int u1 h1
  have k2 := h2
  have lt2 : ∀ x ∈ p2, x.block < W.heap.size := by obtain ⟨m, hm⟩ := k2; exact DataW.trod_lt m _ _ _ hm
  have u2 := hval 2 3 v2 rfl rfl
  obtain ⟨a2, rfl, w2⟩ := arg_int u2 h2
  have htab := tab_of_laid (show laidMet Tryz.prog Rows.shareTripsRow.laid W from hL)
  clear hA0 hval0
  simp only [List.append_nil] at hW'
  refine (shareTrips_walk s0 a1 a2 W hd0 (itoa_tab htab)).mono fun e W' ⟨he, bel⟩ => ?_
  subst he
  exact ⟨_, rfl, _, _, _, [], _, [], hW', trodAll_mk1 (shut_bool Tryz.underlying4 _), (trodAll_cons_mk (Below.trod laidOut (by kernel_rfl) (of_decide_eq_true (by kernel_rfl)) k0 bel lt0) (trodAll_cons_mk (Below.trod laidOut (by kernel_rfl) (of_decide_eq_true (by kernel_rfl)) k1 bel lt1) (trodAll_cons_mk (Below.trod laidOut (by kernel_rfl) (of_decide_eq_true (by kernel_rfl)) k2 bel lt2) trodAll_mk0))), rfl, bel.frame _, fun h => by cases h⟩

theorem both_true {a b : Bool} (h : a = true) (g : b = true) : (a && b) = true := by rw [h, g]; rfl
set_option maxHeartbeats 16000000 in
theorem closed : joinedFacts Tryz.prog 10 Tryz.f10 Rows.shareTripsSpec Rows.shareTripsRow = true := by
  unfold joinedFacts
  repeat' (with_reducible refine both_true ?_ ?_)
  all_goals first | (with_reducible exact f_laid) | (with_reducible exact f_rowed) | (with_reducible exact f_heard) | (with_reducible exact f_enter) | (with_reducible rw [f_keys]; as_aux_lemma => kernel_rfl) | (with_reducible rw [f_lift]; as_aux_lemma => kernel_rfl) | (with_reducible rw [f_make]; as_aux_lemma => kernel_rfl) | (as_aux_lemma => kernel_rfl)

theorem row_holds : Rows.ShareTripsSaid :=
  OpenClaim.holds_of_wide 10 Tryz.f10 rfl rfl rfl rfl rfl rfl rfl ⟨rfl, rfl, rfl, rfl, rfl⟩ rfl rfl rfl rfl rfl (by as_aux_lemma => kernel_rfl) Tryz.func10 closed
    (of_decide_eq_true (by kernel_rfl)) (by unfold Func.isWrapper; first | (rw [if_pos (by decide +kernel)]; kernel_rfl) | (rw [if_neg (by decide +kernel)]; exact ⟨rfl, rfl⟩))
    (fun os started H enc _ => lifted os started H enc)

set_option maxHeartbeats 8000000 in
theorem shareTrips_holds : Rows.ShareTripsCardSaid :=
  Claim7.holds_tied_plain_at .later [] [.data, .data, .data, .data, .pinned] true (true, "7e62b5f23aa16cc2579dbf745918b39c2216085a6a4405f0c28cfd6d2389e0e4") true
    row_holds (fun _ h => by cases h) (by as_aux_lemma => kernel_rfl) (fun _ h => by cases h) shareTrips_row_tie rfl ⟨rfl, rfl⟩ (by as_aux_lemma => kernel_rfl) rfl
    (fun f fn hf hfn => by
      obtain rfl : f = 10 := Option.some.inj ((show Tryz.prog.funcNamed "bathyal/bathyallaw05.ShareTrips" = some 10 by kernel_rfl).symm.trans hf) |>.symm
      obtain rfl : fn = Tryz.f10 := (Option.some.inj (Tryz.func10.symm.trans hfn)).symm
      exact ⟨by kernel_rfl, fun j t ht => by
        rw [Tryz.params10] at ht
        have hm : t ∈ [25, 3, 3] := by simpa using Array.mem_of_getElem? ht
        have hall : ([25, 3, 3].all fun u => !Tryz.prog.wantsStandIn u) = true := by kernel_rfl
        exact (show Tryz.prog.wantsStandIn t = false by simpa using List.all_eq_true.1 hall t hm)⟩)
    (by as_aux_lemma => kernel_rfl)
#print axioms shareTrips_holds
end Go.Proofs.YtplhaohcmhepbaaGreatDoor.shareTrips
