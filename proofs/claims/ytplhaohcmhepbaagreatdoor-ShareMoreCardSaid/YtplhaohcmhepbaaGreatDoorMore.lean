/-
  The statement ShareMore holds for every input: the law returns true and what came in reads as before.
-/
import Derived.Test.YtplhaohcmhepbaaGreatDoorTrue
import Derived.Test.YtplhaohcmhepbaaGreatDoorP13
import Derived.Test.YtplhaohcmhepbaaGreatDoorP17
import Derived.Test.YtplhaohcmhepbaaGreatDoorRows
import Derived.Test.YtplhaohcmhepbaaGreatDoorTie
import Derived.Test.YtplhaohcmhepbaaGreatDoorCards
import Derived.Test.YtplhaohcmhepbaaGreatDoorChecked
import Derived.ProofKit
import Derived.OpenShut
import Derived.LaidMore
import Derived.Stop.Joined
import Derived.SevenTiedAt
import Derived.Carry
import Derived.Lay
namespace Go.Proofs
open Go.RowKit Go.Shelf
attribute [local go_sem ↓] Go.wp_at_zero Go.wp_at_succ

set_option maxHeartbeats 4000000 in
set_option maxRecDepth 20000 in
theorem shareMore_walk (s : Sv) (p more : Int) (w : World) (hi : s.In w) (hI : ItoaAll w) : Calls Tryz.prog 19 #[s.val, .int .i64 p, .int .i64 more] w fun e w' => e = .returned (.bool true) ∧ Below w.heap.size w w' := by
  have HSh := Lib.hid fun (W : World) => short_c s W
  have HK := Lib.hid fun (W : World) (hb : Below w.heap.size w W) => knownLaw_c W (hI.keep hb)
  cases h0 : shortB s
  · rw [h0] at HSh
    clear h0 hi hI
    obtain ⟨pA, lA, pn, pc, ln, lc, ps, ls⟩ := s
    simp only [Sv.val] at *
    have EE := Lib.hid (SBx.start w #[.slice pA pn pc, .slice lA ln lc])
    have cb := EE.out.box.cell
    go_enter Tryz.func19, Tryz.ntmps19
    go_wp2_with (first
      | (refine wpList_load_row rfl 25 _ rfl w.heap.size rfl 25 _ (0, 0) _ EE.out.box Tryz.underlying25 rfl (by kernel_rfl) ?_)
      | (go_at_call 23; refine (HSh.out _).mono ?_; rintro e w1 ⟨rfl, hb⟩; replace EE := Lib.hid (EE.out.keep hb); have cb := EE.out.box.cell; clear hb)
      | (go_at_call 27; refine (HSe.out _ EE.out.below).mono ?_; rintro e w2 ⟨rfl, hb⟩; replace EE := Lib.hid (EE.out.keep hb); have cb := EE.out.box.cell; clear hb)
      | (go_at_call 35; refine (HPe.out _).mono ?_; rintro e w3 ⟨rfl, hb⟩; replace EE := Lib.hid (EE.out.keep hb); have cb := EE.out.box.cell; clear hb)
      | (go_at_call 24; refine (HK.out _ EE.out.below).mono ?_; rintro e w8 ⟨rfl, hb⟩; replace EE := Lib.hid (EE.out.keep hb); clear hb))
    exact bodyPost_ret (results_tmp rfl _ _ _) rfl ⟨rfl, EE.out.below⟩
  · have hsm : s.pn ≤ 9 ∧ s.ln ≤ 9 := by simpa [shortB] using h0
    rw [h0] at HSh
    have HSe := Lib.hid fun (W : World) (hb : Below w.heap.size w W) => refSeason_c s (by omega) (by omega) W (hi.keep hb)
    have HPe := Lib.hid fun (W : World) => person_c s p (by omega) W
    cases h1 : seasonB s.ps s.ls
    · rw [h1] at HSe
      clear h0 h1 hi hI hsm
      obtain ⟨pA, lA, pn, pc, ln, lc, ps, ls⟩ := s
      simp only [Sv.val] at *
      have EE := Lib.hid (SBx.start w #[.slice pA pn pc, .slice lA ln lc])
      have cb := EE.out.box.cell
      go_enter Tryz.func19, Tryz.ntmps19
      go_wp2_with (first
        | (refine wpList_load_row rfl 25 _ rfl w.heap.size rfl 25 _ (0, 0) _ EE.out.box Tryz.underlying25 rfl (by kernel_rfl) ?_)
        | (go_at_call 23; refine (HSh.out _).mono ?_; rintro e w1 ⟨rfl, hb⟩; replace EE := Lib.hid (EE.out.keep hb); have cb := EE.out.box.cell; clear hb)
        | (go_at_call 27; refine (HSe.out _ EE.out.below).mono ?_; rintro e w2 ⟨rfl, hb⟩; replace EE := Lib.hid (EE.out.keep hb); have cb := EE.out.box.cell; clear hb)
        | (go_at_call 35; refine (HPe.out _).mono ?_; rintro e w3 ⟨rfl, hb⟩; replace EE := Lib.hid (EE.out.keep hb); have cb := EE.out.box.cell; clear hb)
        | (go_at_call 24; refine (HK.out _ EE.out.below).mono ?_; rintro e w8 ⟨rfl, hb⟩; replace EE := Lib.hid (EE.out.keep hb); clear hb))
      exact bodyPost_ret (results_tmp rfl _ _ _) rfl ⟨rfl, EE.out.below⟩
    · have hs := (seas_iff _ _).1 h1
      have hpl : s.ps.length = s.pn := hi.ps.1
      have hp6 : s.pn ≤ 6 := by rw [← hpl]; exact hs.six
      have hp2 : 2 ≤ s.pn := by rw [← hpl]; exact hs.two
      rw [h1] at HSe
      cases h2 : inB p 0 ((s.pn : Int) - 1)
      · rw [h2] at HPe
        clear h0 h1 h2 hi hI hsm hs hpl
        obtain ⟨pA, lA, pn, pc, ln, lc, ps, ls⟩ := s
        simp only [Sv.val] at *
        have EE := Lib.hid (SBx.start w #[.slice pA pn pc, .slice lA ln lc])
        have cb := EE.out.box.cell
        go_enter Tryz.func19, Tryz.ntmps19
        go_wp2_with (first
          | (refine wpList_load_row rfl 25 _ rfl w.heap.size rfl 25 _ (0, 0) _ EE.out.box Tryz.underlying25 rfl (by kernel_rfl) ?_)
          | (go_at_call 23; refine (HSh.out _).mono ?_; rintro e w1 ⟨rfl, hb⟩; replace EE := Lib.hid (EE.out.keep hb); have cb := EE.out.box.cell; clear hb)
          | (go_at_call 27; refine (HSe.out _ EE.out.below).mono ?_; rintro e w2 ⟨rfl, hb⟩; replace EE := Lib.hid (EE.out.keep hb); have cb := EE.out.box.cell; clear hb)
          | (go_at_call 35; refine (HPe.out _).mono ?_; rintro e w3 ⟨rfl, hb⟩; replace EE := Lib.hid (EE.out.keep hb); have cb := EE.out.box.cell; clear hb)
          | (go_at_call 24; refine (HK.out _ EE.out.below).mono ?_; rintro e w8 ⟨rfl, hb⟩; replace EE := Lib.hid (EE.out.keep hb); clear hb))
        exact bodyPost_ret (results_tmp rfl _ _ _) rfl ⟨rfl, EE.out.below⟩
      · have hpb : 0 ≤ p ∧ p ≤ (s.pn : Int) - 1 := by simpa [inB] using h2
        obtain ⟨k, rfl⟩ : ∃ k : Nat, p = k := ⟨p.toNat, by omega⟩
        have hk : k < s.pn := by omega
        rw [h2] at HPe
        by_cases hm0 : more < 0
        · clear h0 h1 h2 hi hI hsm hs hpl
          obtain ⟨pA, lA, pn, pc, ln, lc, ps, ls⟩ := s
          simp only [Sv.val] at *
          have EE := Lib.hid (SBx.start w #[.slice pA pn pc, .slice lA ln lc])
          have cb := EE.out.box.cell
          go_enter Tryz.func19, Tryz.ntmps19
          go_wp2_with (first
            | (refine wpList_load_row rfl 25 _ rfl w.heap.size rfl 25 _ (0, 0) _ EE.out.box Tryz.underlying25 rfl (by kernel_rfl) ?_)
            | (go_at_call 23; refine (HSh.out _).mono ?_; rintro e w1 ⟨rfl, hb⟩; replace EE := Lib.hid (EE.out.keep hb); have cb := EE.out.box.cell; clear hb)
            | (go_at_call 27; refine (HSe.out _ EE.out.below).mono ?_; rintro e w2 ⟨rfl, hb⟩; replace EE := Lib.hid (EE.out.keep hb); have cb := EE.out.box.cell; clear hb)
            | (go_at_call 35; refine (HPe.out _).mono ?_; rintro e w3 ⟨rfl, hb⟩; replace EE := Lib.hid (EE.out.keep hb); have cb := EE.out.box.cell; clear hb)
            | (go_at_call 24; refine (HK.out _ EE.out.below).mono ?_; rintro e w8 ⟨rfl, hb⟩; replace EE := Lib.hid (EE.out.keep hb); clear hb))
          exact bodyPost_ret (results_tmp rfl _ _ _) rfl ⟨rfl, EE.out.below⟩
        · by_cases hm1 : 24 < more
          · clear h0 h1 h2 hi hI hsm hs hpl
            obtain ⟨pA, lA, pn, pc, ln, lc, ps, ls⟩ := s
            simp only [Sv.val] at *
            have EE := Lib.hid (SBx.start w #[.slice pA pn pc, .slice lA ln lc])
            have cb := EE.out.box.cell
            go_enter Tryz.func19, Tryz.ntmps19
            go_wp2_with (first
              | (refine wpList_load_row rfl 25 _ rfl w.heap.size rfl 25 _ (0, 0) _ EE.out.box Tryz.underlying25 rfl (by kernel_rfl) ?_)
              | (go_at_call 23; refine (HSh.out _).mono ?_; rintro e w1 ⟨rfl, hb⟩; replace EE := Lib.hid (EE.out.keep hb); have cb := EE.out.box.cell; clear hb)
              | (go_at_call 27; refine (HSe.out _ EE.out.below).mono ?_; rintro e w2 ⟨rfl, hb⟩; replace EE := Lib.hid (EE.out.keep hb); have cb := EE.out.box.cell; clear hb)
              | (go_at_call 35; refine (HPe.out _).mono ?_; rintro e w3 ⟨rfl, hb⟩; replace EE := Lib.hid (EE.out.keep hb); have cb := EE.out.box.cell; clear hb)
              | (go_at_call 24; refine (HK.out _ EE.out.below).mono ?_; rintro e w8 ⟨rfl, hb⟩; replace EE := Lib.hid (EE.out.keep hb); clear hb))
            exact bodyPost_ret (results_tmp rfl _ _ _) rfl ⟨rfl, EE.out.below⟩
          · have hkl : k < s.ps.length := by omega
            have hx := List.getElem?_eq_getElem hkl
            obtain ⟨x, hxx⟩ : ∃ x, x = s.ps[k] := ⟨_, rfl⟩
            rw [← hxx] at hx
            have hpe := hs.pe x (List.mem_of_getElem? hx)
            obtain ⟨x', hx'⟩ : ∃ x', x' = ({ x with p := x.p + more } : Pe) := ⟨_, rfl⟩
            have HX' := Lib.hid hx'
            have HSe2 := Lib.hid fun (A : Option Addr) (c : Nat) (W : World) (hb : Below w.heap.size w W) (hsl : SlOf Pe.cs 3 W A s.pn (s.ps.set k x')) =>
              (show Calls Tryz.prog 27 #[.agg #[.slice A s.pn c, .slice s.lA s.ln s.lc]] W fun e w' => e = .returned (.bool (seasonB (s.ps.set k x') s.ls)) ∧ Below W.heap.size W w' from refSeason_c ⟨A, s.lA, s.pn, c, s.ln, s.lc, _, s.ls⟩ (by simp only; omega) (by simp only; omega) W ⟨hsl, (hi.keep hb).ls⟩)
            have HS0 := Lib.hid fun (W : World) (hb : Below w.heap.size w W) => settle_ok s hs W (hi.keep hb)
            have HS1 := Lib.hid fun (h : Seas (s.ps.set k x') s.ls) (A : Option Addr) (c : Nat) (W : World) (hb : Below w.heap.size w W) (hsl : SlOf Pe.cs 3 W A s.pn (s.ps.set k x')) =>
              (show Calls Tryz.prog 31 #[.agg #[.slice A s.pn c, .slice s.lA s.ln s.lc]] W (fun e w' => ∃ v, e = .returned (.tuple #[v, .int .i64 (boxF (s.ps.set k x') s.ls), .int .i64 0]) ∧ Own eE W.heap.size v (endsF (s.ps.set k x') s.ls) w' ∧ Below W.heap.size W w') from settle_ok ⟨A, s.lA, s.pn, c, s.ln, s.lc, _, s.ls⟩ h W ⟨hsl, (hi.keep hb).ls⟩)
            have HE0 := Lib.hid (show (endsF s.ps s.ls).length = s.pn by rw [endsFLen, hpl])
            have HE1 := Lib.hid (show (endsF (s.ps.set k x') s.ls).length = s.pn by rw [endsFLen, List.length_set, hpl])
            have HF0 := Lib.hid fun (j : Nat) (hj : j < s.pn) => hs.endShare (k := j) (by omega)
            have HF1 := Lib.hid fun (h : Seas (s.ps.set k x') s.ls) (j : Nat) (hj : j < s.pn) => h.endShare (k := j) (by rw [List.length_set]; omega)
            have HMo := Lib.hid fun (h : Seas (s.ps.set k x') s.ls) (j : Nat) => (show (j = k → shareF s.ps s.ls j ≤ shareF (s.ps.set k x') s.ls j) ∧ (j ≠ k → shareF (s.ps.set k x') s.ls j ≤ shareF s.ps s.ls j) from by
              subst hx'
              exact more_share hs hx (by omega) h j)
            have HSi := Lib.hid fun (h : seasonB (s.ps.set k x') s.ls = true) => (seas_iff _ _).1 h
            have HXk := Lib.hid hx
            clear h0 h1 h2 hI hsm hs hpl hx hxx hkl hx'
            obtain ⟨pA, lA, pn, pc, ln, lc, ps, ls⟩ := s
            obtain ⟨hp, hl⟩ := hi
            simp only [Sv.val] at *
            obtain ⟨pb, po, rfl⟩ := hp.addr (by omega)
            have HP := Lib.hid hp; have HPN := Lib.hid hp.1
            clear hp hl
            have EE := Lib.hid (SBx.start w #[.slice (some ⟨pb, po, none⟩) pn pc, .slice lA ln lc])
            have cb := EE.out.box.cell
            go_enter Tryz.func19, Tryz.ntmps19
            go_wp2_with (first
              | (refine wpList_load_row rfl 25 _ rfl w.heap.size rfl 25 _ (0, 0) _ EE.out.box Tryz.underlying25 rfl (by kernel_rfl) ?_)
              | (go_at_call 23; refine (HSh.out _).mono ?_; rintro e w1 ⟨rfl, hb⟩; replace EE := Lib.hid (EE.out.keep hb); have cb := EE.out.box.cell; clear hb)
              | (go_at_call 27; refine (HSe.out _ EE.out.below).mono ?_; rintro e w2 ⟨rfl, hb⟩; replace EE := Lib.hid (EE.out.keep hb); have cb := EE.out.box.cell; clear hb)
              | (go_at_call 35; refine (HPe.out _).mono ?_; rintro e w3 ⟨rfl, hb⟩; replace EE := Lib.hid (EE.out.keep hb); have cb := EE.out.box.cell; clear hb)
              | (go_at_call 24; refine (HK.out _ EE.out.below).mono ?_; rintro e w8 ⟨rfl, hb⟩; replace EE := Lib.hid (EE.out.keep hb); clear hb)
              | (refine wpList_store_all rfl 25 _ _ rfl w3.heap.size rfl _ rfl 25 _ (Has.new w3 25 _) (by kernel_rfl) rfl (by simp [Value.oneCell']) ?_; have hz3 := EE.out.box.lt; have T7 := Lib.hid ((Has.new w3 25 #[.slice none 0 0, .slice none 0 0]).setRow #[.slice (some ⟨pb, po, none⟩) pn pc, .slice lA ln lc]); replace EE := Lib.hid (EE.out.keep (rowB (newB (Below.refl w3.heap.size w3) (.cells #[.slice none 0 0, .slice none 0 0] 25)) (Nat.le_refl _) #[.slice (some ⟨pb, po, none⟩) pn pc, .slice lA ln lc])); generalize (w3.alloc (.cells #[.slice none 0 0, .slice none 0 0] 25)).setRow w3.heap.size #[.slice (some ⟨pb, po, none⟩) pn pc, .slice lA ln lc] = w4 at *; have cb := EE.out.box.cell)
              | (at_builtin; refine El.appMany eP_ok rfl _ _ rfl w4.heap.size (.slice none 0 0) [] rfl (Own.nil _ _ _) ⟨pb, po, none⟩ pn pc ps rfl (HP.out.keep EE.out.below) (by simp; omega) (Nat.le_refl _) ?_; intro v5 w5 ho hb hsp; rw [List.nil_append] at ho; obtain ⟨A5, c5, rfl, _, _⟩ := ho.sl; rw [HPN.out] at ho ⊢; have O5 := Lib.hid ho; have T75 := Lib.hid (T7.out.after hb); replace EE := Lib.hid (EE.out.keep hb); have c7 := T75.out.cell; have f7 := T75.out.frozen; have z7 := T75.out.lt; clear ho hb hsp))
            obtain ⟨g5, rfl⟩ := O5.out.addr (by omega)
            have hg5 := (World.ownsRow.lt O5.out g5 rfl)
            have hz4 : w3.heap.size < w4.heap.size := T7.out.lt
            have O6 := Lib.hid (O5.out.setFar (i := 0) T75.out (by decide) (.slice (some ⟨g5, 0, none⟩) pn c5))
            have T76 := Lib.hid (show Has (w5.setCell ⟨w3.heap.size, 0, none⟩ (.slice (some ⟨g5, 0, none⟩) pn c5)) w3.heap.size 25 #[.slice (some ⟨g5, 0, none⟩) pn c5, .slice lA ln lc] from T75.out.set 0 _)
            have E6 := Lib.hid (show SBx w #[.slice (some ⟨pb, po, none⟩) pn pc, .slice lA ln lc] (w5.setCell ⟨w3.heap.size, 0, none⟩ (.slice (some ⟨g5, 0, none⟩) pn c5)) from ⟨setB EE.out.below (Nat.le_of_lt hz3) _, EE.out.box.far (by simp; omega) _⟩)
            generalize w5.setCell ⟨w3.heap.size, 0, none⟩ (.slice (some ⟨g5, 0, none⟩) pn c5) = w6 at *
            clear c7 f7 z7 cb
            have HP6 := Lib.hid (HP.out.keep E6.out.below)
            have SL6 := Lib.hid (show SlOf Pe.cs 3 w6 (some ⟨g5, 0, none⟩) pn ps from by
              obtain ⟨A', c', e1, h1, _⟩ := O6.out.sl
              simp only [Value.slice.injEq] at e1
              obtain ⟨rfl, e2, _⟩ := e1
              rw [e2]; exact h1)
            obtain ⟨xp, xd, xf⟩ := x
            have M := Lib.hid fun (W : World) (hb : Below w6.heap.size w6 W) => (show (∀ i, W.cell? ⟨w.heap.size, i, none⟩ = (#[.slice (some ⟨pb, po, none⟩) pn pc, .slice lA ln lc] : Array Value)[i]?) ∧ (∀ i, W.cell? ⟨w3.heap.size, i, none⟩ = (#[.slice (some ⟨g5, 0, none⟩) pn c5, .slice lA ln lc] : Array Value)[i]?) ∧ W.cell? ⟨pb, po + k * 3, none⟩ = some (.int .i64 xp) from
              ⟨(E6.out.keep hb).box.cell, (T76.out.after hb).cell, by have := (HP6.out.keep hb).range Pe.cs_len HXk.out 0 _ rfl; simpa using this⟩)
            simp only at hpe
            apply wp_loose 11 [.v _, .v _, .v _, .v _, .v _, .v _, .v _, .v _, .v _, .v _, .v _] (by kernel_rfl) (by kernel_rfl) (by kernel_rfl) (by decide) rfl
            intro K hK
            iterate 10 (apply OblS.val (by kernel_rfl); (intro w' hb _; obtain ⟨q1, q2, q3⟩ := M.out w' hb; go_simp; rfl))
            apply OblS.val (v := .int .i64 (xp + more)) (by kernel_rfl)
            · intro w' hb _; go_simp; rw [IntKind.wrap_i64]; omega
            apply OblS.nil
            apply hK
            intro w7 hb hH
            clear hH hK K
            simp only [Act.put, List.setIfInBounds_toArray, List.set_cons_zero, List.set_cons_succ, List.drop_succ_cons, List.drop_zero]
            have E7 := Lib.hid (E6.out.keep hb); have T77 := Lib.hid (T76.out.after hb); have O7 := Lib.hid (O6.out.keep hb)
            have SL7 := Lib.hid (SL6.out.keep hb)
            have q5 : w7.cell? ⟨g5, k * 3, none⟩ = some (.int .i64 xp) := by have := SL7.out.range Pe.cs_len HXk.out 0 _ rfl; simpa using this
            have f5 := O7.out.frozen (k * 3)
            have z5 := O7.out.blt
            clear hb
            have O8 := Lib.hid (show Own eP w4.heap.size (.slice (some ⟨g5, 0, none⟩) pn c5) (ps.set k x') (w7.setCell ⟨g5, k * 3, none⟩ (.int .i64 (xp + more))) from by
              have := O7.out.setAt eP_ok (x' := x') (u := .int .i64 (xp + more)) (j := 0) HXk.out (by decide) (by rw [HX'.out]; rfl)
              simpa [show eP.sz = 3 from rfl] using this)
            have E8 := Lib.hid (show SBx w #[.slice (some ⟨pb, po, none⟩) pn pc, .slice lA ln lc] (w7.setCell ⟨g5, k * 3, none⟩ (.int .i64 (xp + more))) from ⟨setB E7.out.below (by simp; omega) _, E7.out.box.far (by simp; omega) _⟩)
            have T78 := Lib.hid (T77.out.far (p := ⟨g5, k * 3, none⟩) (by simp; omega) (.int .i64 (xp + more)))
            have SL8 := Lib.hid (show SlOf Pe.cs 3 (w7.setCell ⟨g5, k * 3, none⟩ (.int .i64 (xp + more))) (some ⟨g5, 0, none⟩) pn (ps.set k x') from by
              obtain ⟨A', c', e1, h1, _⟩ := O8.out.sl
              simp only [Value.slice.injEq] at e1
              obtain ⟨rfl, e2, _⟩ := e1
              rw [e2]; exact h1)
            clear O8 O7 O6 O5 SL7 SL6 HP6 E7 E6 T77 T76 T75 T7 M HX' HXk
            cases h5 : seasonB (ps.set k x') ls
            · rw [h5] at HSe2
              clear h5
              go_wp2_with (first
                | (refine wpList_load_row rfl 25 _ rfl w3.heap.size rfl 25 _ (0, 0) _ T78.out Tryz.underlying25 rfl (by kernel_rfl) ?_)
                | (go_at_call 27; refine (HSe2.out _ c5 _ E8.out.below SL8.out).mono ?_; rintro e w9 ⟨rfl, hb⟩; replace E8 := Lib.hid (E8.out.keep hb); replace T78 := Lib.hid (T78.out.after hb); replace SL8 := Lib.hid (SL8.out.keep hb); have cb := E8.out.box.cell; (try replace S0 := Lib.hid (S0.out.keep hb)); (try replace S1 := Lib.hid (S1.out.keep hb)); clear hb)
                | (go_at_call 24; refine (HK.out _ E8.out.below).mono ?_; rintro e w9 ⟨rfl, hb⟩; replace E8 := Lib.hid (E8.out.keep hb); clear hb))
              exact bodyPost_ret (results_tmp rfl _ _ _) rfl ⟨rfl, E8.out.below⟩
            · have HSS := Lib.hid (HSi.out h5)
              rw [h5] at HSe2
              clear h5 HSi
              generalize boxF ps ls = B0 at *
              generalize boxF (ps.set k x') ls = B1 at *
              replace HF1 := Lib.hid (HF1.out HSS.out)
              replace HMo := Lib.hid (HMo.out HSS.out)
              replace HS1 := Lib.hid (HS1.out HSS.out)
              generalize endsF ps ls = E0 at *
              generalize endsF (ps.set k x') ls = E1 at *
              go_wp2_with (first
                | (refine wpList_load_row rfl 25 _ rfl w3.heap.size rfl 25 _ (0, 0) _ T78.out Tryz.underlying25 rfl (by kernel_rfl) ?_)
                | (refine wpList_load_row rfl 25 _ rfl w.heap.size rfl 25 _ (0, 0) _ E8.out.box Tryz.underlying25 rfl (by kernel_rfl) ?_)
                | (go_at_call 27; refine (HSe2.out _ c5 _ E8.out.below SL8.out).mono ?_; rintro e w9 ⟨rfl, hb⟩; replace E8 := Lib.hid (E8.out.keep hb); replace T78 := Lib.hid (T78.out.after hb); replace SL8 := Lib.hid (SL8.out.keep hb); have cb := E8.out.box.cell; (try replace S0 := Lib.hid (S0.out.keep hb)); (try replace S1 := Lib.hid (S1.out.keep hb)); clear hb)
                | (go_at_call 31; (first | (with_reducible refine (HS0.out _ E8.out.below).mono ?_; rintro e w10 ⟨v, rfl, ho, hb⟩; replace E8 := Lib.hid (E8.out.keep hb); replace T78 := Lib.hid (T78.out.after hb); replace SL8 := Lib.hid (SL8.out.keep hb); have cb := E8.out.box.cell; (try replace S0 := Lib.hid (S0.out.keep hb)); (try replace S1 := Lib.hid (S1.out.keep hb)); obtain ⟨A0, c0, rfl, hs0, _⟩ := ho.sl; rw [HE0.out] at hs0 ⊢; have S0 := Lib.hid hs0; clear hb ho hs0) | (with_reducible refine (HS1.out _ c5 _ E8.out.below SL8.out).mono ?_; rintro e w11 ⟨v, rfl, ho, hb⟩; replace E8 := Lib.hid (E8.out.keep hb); replace T78 := Lib.hid (T78.out.after hb); replace SL8 := Lib.hid (SL8.out.keep hb); have cb := E8.out.box.cell; (try replace S0 := Lib.hid (S0.out.keep hb)); (try replace S1 := Lib.hid (S1.out.keep hb)); obtain ⟨A1, c1, rfl, hs1, _⟩ := ho.sl; rw [HE1.out] at hs1 ⊢; have S1 := Lib.hid hs1; clear hb ho hs1))))
              go_loopw [14] (fun v wr => ∃ i : Nat, i ≤ pn ∧ v = .int .i64 i ∧ Below w11.heap.size w11 wr) (fun v _ => pn - (intOf v).toNat)
              case atStart => exact ⟨0, by omega, rfl, Below.refl _ _⟩
              case round =>
                obtain ⟨i, hin, rfl, hB⟩ := hrel
                have HB := Lib.hid hB
                clear hB
                by_cases hi : i < pn
                · obtain ⟨a0, o0, ha0⟩ := S0.out.addr (by omega)
                  obtain ⟨a1, o1, ha1⟩ := S1.out.addr (by omega)
                  subst ha0 ha1
                  have M := Lib.hid fun (W : World) (hb : Below wr.heap.size wr W) => (show W.cell? ⟨a0, o0 + i * 5, none⟩ = some (.int .i64 (shareF ps ls i)) ∧ W.cell? ⟨a1, o1 + i * 5, none⟩ = some (.int .i64 (shareF (ps.set k x') ls i)) from
                    ⟨cellShare ((S0.out.keep HB.out).keep hb) (HF0.out i hi), cellShare ((S1.out.keep HB.out).keep hb) (HF1.out i hi)⟩)
                  have hmo := HMo.out i
                  generalize shareF ps ls i = f0 at *
                  generalize shareF (ps.set k x') ls i = f1 at *
                  by_cases hik : i = k
                  · have e1 : ((i : Int) == (k : Int)) = true := by simp [hik]
                    have e2 : ((i : Int) != (k : Int)) = false := by simp [hik]
                    have e3 : ¬ f1 < f0 := by have := hmo.1 hik; omega
                    clear hmo hik
                    go_wp2
                    apply wp_loose 34 (.v _ :: .v _ :: .v _ :: .v _ :: .v _ :: .v _ :: .v _ :: .v _ :: .v _ :: .v _ :: .v _ :: .v _ :: .v _ :: .v _ :: .v _ :: .v _ :: .v _ :: .v _ :: .v _ :: .v _ :: .v _ :: .v _ :: .v _ :: .v _ :: .v _ :: .v _ :: .v _ :: .v _ :: .v _ :: .v _ :: .v _ :: .v _ :: .v _ :: .v _ :: []) (by kernel_rfl) (by kernel_rfl) (by kernel_rfl) (by decide) rfl
                    intro K hK
                    iterate 2 (apply OblS.val (by kernel_rfl); (intro w' hb _; obtain ⟨q1, q2⟩ := M.out w' hb; go_simp; rfl))
                    apply OblS.val (v := .bool true) (by kernel_rfl)
                    · intro w' hb _; go_simp
                    apply OblS.val (v := .bool true) (by kernel_rfl)
                    · intro w' hb _; go_simp
                    iterate 10 (apply OblS.val (by kernel_rfl); (intro w' hb _; obtain ⟨q1, q2⟩ := M.out w' hb; go_simp; rfl))
                    apply OblS.val (v := .bool false) (by kernel_rfl)
                    · intro w' hb _; go_simp
                    apply OblS.val (v := .bool false) (by kernel_rfl)
                    · intro w' hb _; go_simp
                    apply OblS.val (v := .bool false) (by kernel_rfl)
                    · intro w' hb _; go_simp
                    iterate 2 (apply OblS.val (by kernel_rfl); (intro w' hb _; obtain ⟨q1, q2⟩ := M.out w' hb; go_simp; rfl))
                    apply OblS.val (v := .bool false) (by kernel_rfl)
                    · intro w' hb _; go_simp
                    apply OblS.val (v := .bool false) (by kernel_rfl)
                    · intro w' hb _; go_simp
                    iterate 11 (apply OblS.skip (by kernel_rfl))
                    apply OblS.val (v := .bool false) (by kernel_rfl)
                    · intro w' hb _; go_simp
                    apply OblS.val (v := .bool false) (by kernel_rfl)
                    · intro w' hb _; go_simp
                    apply OblS.nil
                    apply hK
                    intro w12 hb hH
                    clear hH hK K
                    simp only [Act.put, List.setIfInBounds_toArray, List.set_cons_zero, List.set_cons_succ, List.drop_succ_cons, List.drop_zero]
                    have HB2 := Lib.hid (nextB HB.out hb)
                    clear hb
                    go_wp2
                    go_roundw
                    case rel => exact ⟨i + 1, by omega, by go_num, HB2.out⟩
                    case measure => first | (simp [intOf]; done) | (simp [intOf]; omega)
                  · have e1 : ((i : Int) == (k : Int)) = false := by rw [beq_eq_false_iff_ne]; omega
                    have e2 : ((i : Int) != (k : Int)) = true := by rw [bne_iff_ne]; omega
                    have e3 : ¬ f0 < f1 := by have := hmo.2 hik; omega
                    clear hmo hik
                    go_wp2
                    apply wp_loose 34 (.v _ :: .v _ :: .v _ :: .v _ :: .v _ :: .v _ :: .v _ :: .v _ :: .v _ :: .v _ :: .v _ :: .v _ :: .v _ :: .v _ :: .v _ :: .v _ :: .v _ :: .v _ :: .v _ :: .v _ :: .v _ :: .v _ :: .v _ :: .v _ :: .v _ :: .v _ :: .v _ :: .v _ :: .v _ :: .v _ :: .v _ :: .v _ :: .v _ :: .v _ :: []) (by kernel_rfl) (by kernel_rfl) (by kernel_rfl) (by decide) rfl
                    intro K hK
                    iterate 2 (apply OblS.val (by kernel_rfl); (intro w' hb _; obtain ⟨q1, q2⟩ := M.out w' hb; go_simp; rfl))
                    apply OblS.val (v := .bool false) (by kernel_rfl)
                    · intro w' hb _; go_simp
                    apply OblS.val (v := .bool false) (by kernel_rfl)
                    · intro w' hb _; go_simp
                    iterate 11 (apply OblS.skip (by kernel_rfl))
                    apply OblS.val (v := .bool false) (by kernel_rfl)
                    · intro w' hb _; go_simp
                    apply OblS.val (v := .bool false) (by kernel_rfl)
                    · intro w' hb _; go_simp
                    iterate 2 (apply OblS.val (by kernel_rfl); (intro w' hb _; obtain ⟨q1, q2⟩ := M.out w' hb; go_simp; rfl))
                    apply OblS.val (v := .bool true) (by kernel_rfl)
                    · intro w' hb _; go_simp
                    apply OblS.val (v := .bool true) (by kernel_rfl)
                    · intro w' hb _; go_simp
                    iterate 10 (apply OblS.val (by kernel_rfl); (intro w' hb _; obtain ⟨q1, q2⟩ := M.out w' hb; go_simp; rfl))
                    apply OblS.val (v := .bool false) (by kernel_rfl)
                    · intro w' hb _; go_simp
                    apply OblS.val (v := .bool false) (by kernel_rfl)
                    · intro w' hb _; go_simp
                    apply OblS.val (v := .bool false) (by kernel_rfl)
                    · intro w' hb _; go_simp
                    apply OblS.nil
                    apply hK
                    intro w12 hb hH
                    clear hH hK K
                    simp only [Act.put, List.setIfInBounds_toArray, List.set_cons_zero, List.set_cons_succ, List.drop_succ_cons, List.drop_zero]
                    have HB2 := Lib.hid (nextB HB.out hb)
                    clear hb
                    go_wp2
                    go_roundw
                    case rel => exact ⟨i + 1, by omega, by go_num, HB2.out⟩
                    case measure => first | (simp [intOf]; done) | (simp [intOf]; omega)
                · have hie : i = pn := by omega
                  subst hie
                  have EB := Lib.hid (E8.out.keep HB.out)
                  go_wp2_with (go_at_call 24; refine (HK.out _ EB.out.below).mono ?_; rintro e w12 ⟨rfl, hb⟩; replace EB := Lib.hid (EB.out.keep hb); clear hb)
                  exact bodyPost_ret (results_tmp rfl _ _ _) rfl ⟨rfl, EB.out.below⟩
end Go.Proofs
namespace Go.Proofs.YtplhaohcmhepbaaGreatDoor.shareMore
open Go.ChangeShapes Go.WideShapes Go.ChangeAt Go.RowKit Go.Proofs

theorem own : ownKnob Tryz.prog.godebug = none := f_own
theorem laidOut : laidOutB Tryz.prog = true := f_laid
set_option maxRecDepth 100000 in
theorem lifted (os : Os) (started : os.Started) (H : Type) (enc : TypeId × Value → H) :
    ReturnsInHanded {} Tryz.checked os 19 .any (fun w args => (Rows.shareMoreSpec.pre enc Tryz.prog Tryz.f19 [] false w args ∧ laidMetH Tryz.prog Rows.shareMoreRow.laid w) ∧ sizedMet enc Tryz.prog Tryz.f19 (OpenSpec.ofChange Rows.shareMoreSpec) false w args)
      (Rows.shareMoreSpec.post enc Tryz.prog Tryz.f19 false true false false) := by
  refine returnsInHanded_of_change_and (C := Tryz.checked) (X := fun w _ => laidMetH Tryz.prog Rows.shareMoreRow.laid w) (fun _ _ _ hh h => h.of_heap hh) own started (by kernel_rfl) Tryz.func19
    (ChangeSpec.witness_shaped (enc := enc) (C := Tryz.checked) (os := os) (X := fun w _ => laidMetH Tryz.prog Rows.shareMoreRow.laid w) false (World.laidAll Tryz.prog os Rows.shareMoreRow.laid) #[.agg #[.slice none 0 0, .slice none 0 0], .int .i64 0, .int .i64 0] 8 (World.laidAll_os _ _ _) (World.shaped_of_ZipB (by kernel_rfl) (by kernel_rfl)) (by kernel_rfl) (by kernel_rfl) (by kernel_rfl) (by rw [MakeChecks.laidMetH_plain _ _ _ (by kernel_rfl)]; exact laidMet_laidAll _ (by kernel_rfl) (by kernel_rfl))) ?_
  intro W base args ds gs before hval0 hW _ _ hL _
  have hval : ∀ (j : Nat) t v, Tryz.f19.params[j]? = some t → args[j]? = some v → Value.okWide Tryz.prog W .any base t v := hval0
  have hW' := hW
  obtain ⟨p, q, hA0, hV, rfl, hfz, hnd⟩ := hW
  have hA : DataW.TrodAll enc Tryz.prog W 0 (fun _ => true) true Tryz.f19.params.toList args.toList ds p := hA0
  rw [Tryz.params19] at hA hval
  obtain ⟨v0, vs0, d0, ds0, p0, q0, hargs, rfl, rfl, h0, r0⟩ := trodAll_cons hA
  obtain ⟨v1, vs1, d1, ds1, p1, q1, rfl, rfl, rfl, h1, r1⟩ := trodAll_cons r0
  obtain ⟨v2, vs2, d2, ds2, p2, q2, rfl, rfl, rfl, h2, r2⟩ := trodAll_cons r1
  obtain ⟨rfl, rfl, rfl⟩ := trodAll_nil r2
  obtain rfl : args = #[v0, v1, v2] := by cases args; simp_all
  obtain ⟨rfl, rfl⟩ := trodVars_none hV
  have k0 := h0
  have lt0 : ∀ x ∈ p0, x.block < W.heap.size := by obtain ⟨m, hm⟩ := k0; exact DataW.trod_lt m _ _ _ hm
  have u0 := hval 0 25 v0 rfl rfl
  obtain ⟨s0, rfl, hd0, wp0, wl0, hx0⟩ := arg_season u0 h0
  have k1 := h1
  have lt1 : ∀ x ∈ p1, x.block < W.heap.size := by obtain ⟨m, hm⟩ := k1; exact DataW.trod_lt m _ _ _ hm
  have u1 := hval 1 3 v1 rfl rfl
  obtain ⟨a1, rfl, w1⟩ := arg_int u1 h1
  have k2 := h2
  have lt2 : ∀ x ∈ p2, x.block < W.heap.size := by obtain ⟨m, hm⟩ := k2; exact DataW.trod_lt m _ _ _ hm
  have u2 := hval 2 3 v2 rfl rfl
  obtain ⟨a2, rfl, w2⟩ := arg_int u2 h2
  have htab := tab_of_laid (show laidMet Tryz.prog Rows.shareMoreRow.laid W from hL)
  clear hA0 hval0
  simp only [List.append_nil] at hW'
  refine (shareMore_walk s0 a1 a2 W hd0 (itoa_tab htab)).mono fun e W' ⟨he, bel⟩ => ?_
  subst he
  exact ⟨_, rfl, _, _, _, [], _, [], hW', trodAll_mk1 (shut_bool Tryz.underlying4 _), (trodAll_cons_mk (Below.trod laidOut (by kernel_rfl) (of_decide_eq_true (by kernel_rfl)) k0 bel lt0) (trodAll_cons_mk (Below.trod laidOut (by kernel_rfl) (of_decide_eq_true (by kernel_rfl)) k1 bel lt1) (trodAll_cons_mk (Below.trod laidOut (by kernel_rfl) (of_decide_eq_true (by kernel_rfl)) k2 bel lt2) trodAll_mk0))), rfl, bel.frame _, fun h => by cases h⟩

theorem both_true {a b : Bool} (h : a = true) (g : b = true) : (a && b) = true := by rw [h, g]; rfl
set_option maxHeartbeats 16000000 in
theorem closed : joinedFacts Tryz.prog 19 Tryz.f19 Rows.shareMoreSpec Rows.shareMoreRow = true := by
  unfold joinedFacts
  repeat' (with_reducible refine both_true ?_ ?_)
  all_goals first | (with_reducible exact f_laid) | (with_reducible exact f_rowed) | (with_reducible exact f_heard) | (with_reducible exact f_enter) | (with_reducible rw [f_keys]; as_aux_lemma => kernel_rfl) | (with_reducible rw [f_lift]; as_aux_lemma => kernel_rfl) | (with_reducible rw [f_make]; as_aux_lemma => kernel_rfl) | (as_aux_lemma => kernel_rfl)

theorem row_holds : Rows.ShareMoreSaid :=
  OpenClaim.holds_of_wide 19 Tryz.f19 rfl rfl rfl rfl rfl rfl rfl ⟨rfl, rfl, rfl, rfl, rfl⟩ rfl rfl rfl rfl rfl (by as_aux_lemma => kernel_rfl) Tryz.func19 closed
    (of_decide_eq_true (by kernel_rfl)) (by unfold Func.isWrapper; first | (rw [if_pos (by decide +kernel)]; kernel_rfl) | (rw [if_neg (by decide +kernel)]; exact ⟨rfl, rfl⟩))
    (fun os started H enc _ => lifted os started H enc)

set_option maxHeartbeats 8000000 in
theorem shareMore_holds : Rows.ShareMoreCardSaid :=
  Claim7.holds_tied_plain_at .later [] [.data, .data, .data, .data, .pinned] true (true, "7e62b5f23aa16cc2579dbf745918b39c2216085a6a4405f0c28cfd6d2389e0e4") true
    row_holds (fun _ h => by cases h) (by as_aux_lemma => kernel_rfl) (fun _ h => by cases h) shareMore_row_tie rfl ⟨rfl, rfl⟩ (by as_aux_lemma => kernel_rfl) rfl
    (fun f fn hf hfn => by
      obtain rfl : f = 19 := Option.some.inj ((show Tryz.prog.funcNamed "bathyal/bathyallaw05.ShareMore" = some 19 by kernel_rfl).symm.trans hf) |>.symm
      obtain rfl : fn = Tryz.f19 := (Option.some.inj (Tryz.func19.symm.trans hfn)).symm
      exact ⟨by kernel_rfl, fun j t ht => by
        rw [Tryz.params19] at ht
        have hm : t ∈ [25, 3, 3] := by simpa using Array.mem_of_getElem? ht
        have hall : ([25, 3, 3].all fun u => !Tryz.prog.wantsStandIn u) = true := by kernel_rfl
        exact (show Tryz.prog.wantsStandIn t = false by simpa using List.all_eq_true.1 hall t hm)⟩)
    (by as_aux_lemma => kernel_rfl)
#print axioms shareMore_holds
end Go.Proofs.YtplhaohcmhepbaaGreatDoor.shareMore
