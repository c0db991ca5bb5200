/-
  The statement ShareOweds holds for every input: the law returns true and what came in reads as before.
-/
import Derived.Test.YtplhaohcmhepbaaGreatDoorP15
import Derived.Test.YtplhaohcmhepbaaGreatDoorP13
import Derived.Test.YtplhaohcmhepbaaGreatDoorP17
import Derived.Test.YtplhaohcmhepbaaGreatDoorRows
import Derived.Test.YtplhaohcmhepbaaGreatDoorTie
import Derived.Test.YtplhaohcmhepbaaGreatDoorCards
import Derived.Test.YtplhaohcmhepbaaGreatDoorChecked
import Derived.ProofKit
import Derived.OpenShut
import Derived.LaidMore
import Derived.Stop.Joined
import Derived.SevenTiedAt
import Derived.Carry
import Derived.Lay
namespace Go.Proofs
open Go.RowKit Go.Shelf
attribute [local go_sem ↓] Go.wp_at_zero Go.wp_at_succ

section
variable {P : Program} {w0 : World} {ops : Array Oper} {i : Nat} {S : List Spec} {o : Oper} {r : List Oper} {a : Act} {H : Hyps} {K : Act → Hyps → Prop}
theorem OblS.rowG (hg : Region.wanted o (yielded ops a.tmps) = true) (ty : TypeId) (x : Operand) (ho : o.op = .load ty x) (g : Nat) (hx : a.eval x = .pointer (some ⟨g, 0, none⟩)) (t : TypeId) (cs : Array Value) (d : TypeDesc)
    (hh : Has w0 g t cs) (hu : P.underlying ty = some d) (hd : (match d with | .struct _ | .array _ _ => true | _ => false) = true) (hi : (P.info? ty).map (·.size) = some cs.size)
    (h : OblS P ops w0 (i + 1) S r (a.put o.dst (.agg cs)) H K) : OblS P ops w0 i (.v (.agg cs) :: S) (o :: r) a H K := by
  refine ⟨fun w hB hH => .inl ⟨hg, ?_⟩, h⟩
  have hl := run_loadVar_row w g t ty cs (0, 0) d (hh.after hB) hu hd hi
  have hq : (execOp a.eval o).run P w = .ok (.value (.agg cs)) w := by
    unfold execOp
    simp only [ho, hx, Instr.loadAt, Instr.sureAddr, Sem.run_bind, Sem.run_pure, Result.andThen_ok, hl]
  unfold Oper.wp
  rw [hq]
  exact ⟨_, rfl, rfl, Below.refl _ _⟩
end
theorem eq56g (a b : Int) (W : World) : (Op.equalIn 10000 56 (.agg #[.int .i64 a, .int .i64 b]) (.agg #[.int .i64 a, .int .i64 b])).run Tryz.prog W = .ok true W := by
  rw [run_equalIn_struct _ _ _ _ _ (by kernel_rfl) (by kernel_rfl)]
  simp [go_sem, Op.eqFields, Tryz.underlying56, Program.fieldsOf]
theorem owed_no {ps : List Pe} {ls : List La} {p may : Int} (h : sharerB ps ls p = false ∨ openB ps p.toNat may = false) : spE (owedF ps ls p may) = .tuple #[.agg #[.int .i64 0, .int .i64 0], .int .i64 2] := by
  unfold owedF
  rcases h with h | h <;> rw [h] <;> simp [spE]
theorem owed_yes {ps : List Pe} {ls : List La} {p : Nat} {may : Int} (hs : Seas ps ls) (hp : p < ps.length) (hf : shB (ps.getD p ⟨0, 0, 0⟩).f = true) (hm : mayB ps p may = true) (qs : List Pe) (hq : Des ps qs (fun k => hasB may k)) :
    spE (owedF ps ls p may) = .tuple #[.agg #[.int .i64 (shareF ps ls p), .int .i64 (shareF qs ls p)], .int .i64 0] := by
  have h6 := hs.six
  have h2 := hs.two
  obtain ⟨m0, m1, m2, m3⟩ := mayB_facts hm (by omega) hp
  have ho : openB ps p may = true := by rw [may_open h6 (by omega) hp]; exact hm
  have hsh : sharerB ps ls (p : Int) = true := by
    unfold sharerB
    rw [(seas_iff _ _).2 hs, Int.toNat_natCast, hf]
    have : inB (p : Int) 0 ((ps.length : Int) - 1) = true := by simp only [inB, decide_eq_true_eq]; omega
    rw [this]; rfl
  obtain ⟨e1, e2⟩ := owed_ends hs m2 m3 qs hq (fun k hk => hasB_small m0 m1 (by omega))
  unfold owedF
  rw [hsh, Int.toNat_natCast, ho]
  simp only [Bool.and_self, if_true, e1, e2, Option.getD_some, spE]
theorem des_of (ps : List Pe) (may : Int) (_ : 0 ≤ may) (_ : may ≤ 2 ^ ps.length - 1) (h6 : ps.length ≤ 6) : Des ps (desL ps (membersL may)) (fun k => hasB may k) := by
  have h := desL_des (membersL may) ps
  refine ⟨h.len, fun k x hx => ?_⟩
  rw [h.get k x hx]
  have hk := (List.getElem?_eq_some_iff.1 hx).1
  have : decide (k ∈ membersL may) = hasB may k := by
    cases hh : hasB may k
    · exact decide_eq_false fun h => by have := (mem_membersL.1 h).2; rw [hh] at this; cases this
    · exact decide_eq_true (mem_membersL.2 ⟨by omega, hh⟩)
  rw [this]
set_option maxHeartbeats 4000000 in
set_option maxRecDepth 20000 in
theorem shareOweds_walk (s : Sv) (p may : Int) (w : World) (hi : s.In w) (hI : ItoaAll w) : Calls Tryz.prog 8 #[s.val, .int .i64 p, .int .i64 may] w fun e w' => e = .returned (.bool true) ∧ Below w.heap.size w w' := by
  have HSh := Lib.hid fun (W : World) => short_c s W
  have HK := Lib.hid fun (W : World) (hb : Below w.heap.size w W) => knownLaw_c W (hI.keep hb)
  have q56 := eq56g
  cases h0 : shortB s
  · rw [h0] at HSh
    clear h0 hi hI
    obtain ⟨pA, lA, pn, pc, ln, lc, ps, ls⟩ := s
    simp only [Sv.val] at *
    have EE := Lib.hid (SBx.start w #[.slice pA pn pc, .slice lA ln lc])
    go_enter Tryz.func8, Tryz.ntmps8
    go_wp2_with (first
      | (refine wpList_load_row rfl 25 _ rfl w.heap.size rfl 25 _ (0, 0) _ EE.out.box Tryz.underlying25 rfl (by kernel_rfl) ?_)
      | (go_at_call 23; refine (HSh.out _).mono ?_; rintro e w1 ⟨rfl, hb⟩; replace EE := Lib.hid (EE.out.keep hb); have cb := EE.out.box.cell; clear hb)
      | (go_at_call 38; refine (HOw.out _ EE.out.below).mono ?_; rintro e w2 ⟨rfl, hb⟩; replace EE := Lib.hid (EE.out.keep hb); clear hb)
      | (refine wpList_store_all rfl 56 _ _ rfl w2.heap.size rfl _ rfl 56 _ (Has.new w2 56 _) (by kernel_rfl) rfl (by simp [Value.oneCell']) ?_; have XX := Lib.hid ((Has.new w2 56 #[.int .i64 0, .int .i64 0]).setRow #[.int .i64 0, .int .i64 0]); replace EE := Lib.hid (EE.out.keep (rowB (newB (Below.refl w2.heap.size w2) (.cells #[.int .i64 0, .int .i64 0] 56)) (Nat.le_refl _) #[.int .i64 0, .int .i64 0])); generalize (w2.alloc (.cells #[.int .i64 0, .int .i64 0] 56)).setRow w2.heap.size #[.int .i64 0, .int .i64 0] = w3 at *; have cb := EE.out.box.cell; have cx := XX.out.cell)
      | (go_at_call 27; refine (HSe.out _ EE.out.below).mono ?_; rintro e w4 ⟨rfl, hb⟩; replace EE := Lib.hid (EE.out.keep hb); have cb := EE.out.box.cell; replace XX := Lib.hid (XX.out.after hb); have cx := XX.out.cell;  clear hb)
      | (go_at_call 35; refine (HPe.out _).mono ?_; rintro e w5 ⟨rfl, hb⟩; replace EE := Lib.hid (EE.out.keep hb); have cb := EE.out.box.cell; replace XX := Lib.hid (XX.out.after hb); have cx := XX.out.cell;  clear hb)
      | (go_at_call 39; refine (HMa.out _ EE.out.below).mono ?_; rintro e w6 ⟨rfl, hb⟩; replace EE := Lib.hid (EE.out.keep hb); have cb := EE.out.box.cell; replace XX := Lib.hid (XX.out.after hb); have cx := XX.out.cell;  clear hb)
      | (go_at_call 24; refine (HK.out _ EE.out.below).mono ?_; rintro e w8 ⟨rfl, hb⟩; replace EE := Lib.hid (EE.out.keep hb); clear hb))
    exact bodyPost_ret (results_tmp rfl _ _ _) rfl ⟨rfl, EE.out.below⟩
  · have hsm : s.pn ≤ 9 ∧ s.ln ≤ 9 := by simpa [shortB] using h0
    rw [h0] at HSh
    have HSe := Lib.hid fun (W : World) (hb : Below w.heap.size w W) => refSeason_c s (by omega) (by omega) W (hi.keep hb)
    have HPe := Lib.hid fun (W : World) => person_c s p (by omega) W
    have HO1 := Lib.hid fun (h : sharerB s.ps s.ls p = false ∨ openB s.ps p.toNat may = false) (W : World) (hb : Below w.heap.size w W) => (show Calls Tryz.prog 38 #[s.val, .int .i64 p, .int .i64 may] W fun e w' => e = .returned (.tuple #[.agg #[.int .i64 0, .int .i64 0], .int .i64 2]) ∧ Below W.heap.size W w' from by
      rw [← owed_no h]; exact Owed_c s p may (by omega) (by omega) W (hi.keep hb))
    cases h1 : seasonB s.ps s.ls
    · have HOw := Lib.hid (HO1.out (.inl (by simp [sharerB, h1])))
      rw [h1] at HSe
      clear h0 h1 hi hI hsm HO1 HPe
      obtain ⟨pA, lA, pn, pc, ln, lc, ps, ls⟩ := s
      simp only [Sv.val] at *
      have EE := Lib.hid (SBx.start w #[.slice pA pn pc, .slice lA ln lc])
      go_enter Tryz.func8, Tryz.ntmps8
      go_wp2_with (first
        | (refine wpList_load_row rfl 25 _ rfl w.heap.size rfl 25 _ (0, 0) _ EE.out.box Tryz.underlying25 rfl (by kernel_rfl) ?_)
        | (go_at_call 23; refine (HSh.out _).mono ?_; rintro e w1 ⟨rfl, hb⟩; replace EE := Lib.hid (EE.out.keep hb); have cb := EE.out.box.cell; clear hb)
        | (go_at_call 38; refine (HOw.out _ EE.out.below).mono ?_; rintro e w2 ⟨rfl, hb⟩; replace EE := Lib.hid (EE.out.keep hb); clear hb)
        | (refine wpList_store_all rfl 56 _ _ rfl w2.heap.size rfl _ rfl 56 _ (Has.new w2 56 _) (by kernel_rfl) rfl (by simp [Value.oneCell']) ?_; have XX := Lib.hid ((Has.new w2 56 #[.int .i64 0, .int .i64 0]).setRow #[.int .i64 0, .int .i64 0]); replace EE := Lib.hid (EE.out.keep (rowB (newB (Below.refl w2.heap.size w2) (.cells #[.int .i64 0, .int .i64 0] 56)) (Nat.le_refl _) #[.int .i64 0, .int .i64 0])); generalize (w2.alloc (.cells #[.int .i64 0, .int .i64 0] 56)).setRow w2.heap.size #[.int .i64 0, .int .i64 0] = w3 at *; have cb := EE.out.box.cell; have cx := XX.out.cell)
        | (go_at_call 27; refine (HSe.out _ EE.out.below).mono ?_; rintro e w4 ⟨rfl, hb⟩; replace EE := Lib.hid (EE.out.keep hb); have cb := EE.out.box.cell; replace XX := Lib.hid (XX.out.after hb); have cx := XX.out.cell;  clear hb)
        | (go_at_call 35; refine (HPe.out _).mono ?_; rintro e w5 ⟨rfl, hb⟩; replace EE := Lib.hid (EE.out.keep hb); have cb := EE.out.box.cell; replace XX := Lib.hid (XX.out.after hb); have cx := XX.out.cell;  clear hb)
        | (go_at_call 39; refine (HMa.out _ EE.out.below).mono ?_; rintro e w6 ⟨rfl, hb⟩; replace EE := Lib.hid (EE.out.keep hb); have cb := EE.out.box.cell; replace XX := Lib.hid (XX.out.after hb); have cx := XX.out.cell;  clear hb)
        | (go_at_call 24; refine (HK.out _ EE.out.below).mono ?_; rintro e w8 ⟨rfl, hb⟩; replace EE := Lib.hid (EE.out.keep hb); clear hb))
      exact bodyPost_ret (results_tmp rfl _ _ _) rfl ⟨rfl, EE.out.below⟩
    · have hs := (seas_iff _ _).1 h1
      have hpl : s.ps.length = s.pn := hi.ps.1
      have hp6 : s.pn ≤ 6 := by rw [← hpl]; exact hs.six
      have hp2 : 2 ≤ s.pn := by rw [← hpl]; exact hs.two
      rw [h1] at HSe
      cases h2 : inB p 0 ((s.pn : Int) - 1)
      · have HOw := Lib.hid (HO1.out (.inl (by unfold sharerB; rw [hpl, h2]; simp)))
        rw [h2] at HPe
        clear h0 h1 h2 hi hI hsm HO1 hs hpl
        obtain ⟨pA, lA, pn, pc, ln, lc, ps, ls⟩ := s
        simp only [Sv.val] at *
        have EE := Lib.hid (SBx.start w #[.slice pA pn pc, .slice lA ln lc])
        go_enter Tryz.func8, Tryz.ntmps8
        go_wp2_with (first
          | (refine wpList_load_row rfl 25 _ rfl w.heap.size rfl 25 _ (0, 0) _ EE.out.box Tryz.underlying25 rfl (by kernel_rfl) ?_)
          | (go_at_call 23; refine (HSh.out _).mono ?_; rintro e w1 ⟨rfl, hb⟩; replace EE := Lib.hid (EE.out.keep hb); have cb := EE.out.box.cell; clear hb)
          | (go_at_call 38; refine (HOw.out _ EE.out.below).mono ?_; rintro e w2 ⟨rfl, hb⟩; replace EE := Lib.hid (EE.out.keep hb); clear hb)
          | (refine wpList_store_all rfl 56 _ _ rfl w2.heap.size rfl _ rfl 56 _ (Has.new w2 56 _) (by kernel_rfl) rfl (by simp [Value.oneCell']) ?_; have XX := Lib.hid ((Has.new w2 56 #[.int .i64 0, .int .i64 0]).setRow #[.int .i64 0, .int .i64 0]); replace EE := Lib.hid (EE.out.keep (rowB (newB (Below.refl w2.heap.size w2) (.cells #[.int .i64 0, .int .i64 0] 56)) (Nat.le_refl _) #[.int .i64 0, .int .i64 0])); generalize (w2.alloc (.cells #[.int .i64 0, .int .i64 0] 56)).setRow w2.heap.size #[.int .i64 0, .int .i64 0] = w3 at *; have cb := EE.out.box.cell; have cx := XX.out.cell)
          | (go_at_call 27; refine (HSe.out _ EE.out.below).mono ?_; rintro e w4 ⟨rfl, hb⟩; replace EE := Lib.hid (EE.out.keep hb); have cb := EE.out.box.cell; replace XX := Lib.hid (XX.out.after hb); have cx := XX.out.cell;  clear hb)
          | (go_at_call 35; refine (HPe.out _).mono ?_; rintro e w5 ⟨rfl, hb⟩; replace EE := Lib.hid (EE.out.keep hb); have cb := EE.out.box.cell; replace XX := Lib.hid (XX.out.after hb); have cx := XX.out.cell;  clear hb)
          | (go_at_call 39; refine (HMa.out _ EE.out.below).mono ?_; rintro e w6 ⟨rfl, hb⟩; replace EE := Lib.hid (EE.out.keep hb); have cb := EE.out.box.cell; replace XX := Lib.hid (XX.out.after hb); have cx := XX.out.cell;  clear hb)
          | (go_at_call 24; refine (HK.out _ EE.out.below).mono ?_; rintro e w8 ⟨rfl, hb⟩; replace EE := Lib.hid (EE.out.keep hb); clear hb))
        exact bodyPost_ret (results_tmp rfl _ _ _) rfl ⟨rfl, EE.out.below⟩
      · have hpb : 0 ≤ p ∧ p ≤ (s.pn : Int) - 1 := by simpa [inB] using h2
        obtain ⟨k, rfl⟩ : ∃ k : Nat, p = k := ⟨p.toNat, by omega⟩
        have hk : k < s.pn := by omega
        have hkl : k < s.ps.length := by omega
        have hx := List.getElem?_eq_getElem hkl
        obtain ⟨x, hxx⟩ : ∃ x, x = s.ps[k] := ⟨_, rfl⟩
        rw [← hxx] at hx
        have hgx : s.ps.getD k ⟨0, 0, 0⟩ = x := by rw [List.getD_eq_getElem?_getD, hx]; rfl
        have hpe := hs.pe x (List.mem_of_getElem? hx)
        have HMa := Lib.hid fun (W : World) (hb : Below w.heap.size w W) => may_c s k may hp6 W (hi.keep hb)
        obtain ⟨pb, po, hpa⟩ := hi.ps.addr (by omega)
        have PF := Lib.hid fun (W : World) (hb : Below w.heap.size w W) => (show W.cell? ⟨pb, po + k * 3 + 2, none⟩ = some (.int .i64 x.f) from by
          have h := hi.ps.keep hb
          rw [hpa] at h
          exact h.range Pe.cs_len hx 2 _ rfl)
        rw [h2] at HPe
        by_cases hf : x.f = 2
        · have HOw := Lib.hid (HO1.out (.inl (by unfold sharerB; rw [Int.toNat_natCast, hgx, hf]; simp [shB])))
          rw [hf] at PF
          clear h0 h1 h2 hi hI hsm HO1 hs hpl hx hxx hgx hkl
          obtain ⟨pA, lA, pn, pc, ln, lc, ps, ls⟩ := s
          simp only [Sv.val] at *
          subst hpa
          have EE := Lib.hid (SBx.start w #[.slice (some ⟨pb, po, none⟩) pn pc, .slice lA ln lc])
          go_enter Tryz.func8, Tryz.ntmps8
          go_wp2_with (first
            | (refine wpList_load_row rfl 25 _ rfl w.heap.size rfl 25 _ (0, 0) _ EE.out.box Tryz.underlying25 rfl (by kernel_rfl) ?_)
            | (go_at_call 23; refine (HSh.out _).mono ?_; rintro e w1 ⟨rfl, hb⟩; replace EE := Lib.hid (EE.out.keep hb); have cb := EE.out.box.cell; clear hb)
            | (go_at_call 38; refine (HOw.out _ EE.out.below).mono ?_; rintro e w2 ⟨rfl, hb⟩; replace EE := Lib.hid (EE.out.keep hb); clear hb)
            | (refine wpList_store_all rfl 56 _ _ rfl w2.heap.size rfl _ rfl 56 _ (Has.new w2 56 _) (by kernel_rfl) rfl (by simp [Value.oneCell']) ?_; have XX := Lib.hid ((Has.new w2 56 #[.int .i64 0, .int .i64 0]).setRow #[.int .i64 0, .int .i64 0]); replace EE := Lib.hid (EE.out.keep (rowB (newB (Below.refl w2.heap.size w2) (.cells #[.int .i64 0, .int .i64 0] 56)) (Nat.le_refl _) #[.int .i64 0, .int .i64 0])); generalize (w2.alloc (.cells #[.int .i64 0, .int .i64 0] 56)).setRow w2.heap.size #[.int .i64 0, .int .i64 0] = w3 at *; have cb := EE.out.box.cell; have cx := XX.out.cell)
            | (go_at_call 27; refine (HSe.out _ EE.out.below).mono ?_; rintro e w4 ⟨rfl, hb⟩; replace EE := Lib.hid (EE.out.keep hb); have cb := EE.out.box.cell; replace XX := Lib.hid (XX.out.after hb); have cx := XX.out.cell; have pf := PF.out _ EE.out.below; clear hb)
            | (go_at_call 35; refine (HPe.out _).mono ?_; rintro e w5 ⟨rfl, hb⟩; replace EE := Lib.hid (EE.out.keep hb); have cb := EE.out.box.cell; replace XX := Lib.hid (XX.out.after hb); have cx := XX.out.cell; have pf := PF.out _ EE.out.below; clear hb)
            | (go_at_call 39; refine (HMa.out _ EE.out.below).mono ?_; rintro e w6 ⟨rfl, hb⟩; replace EE := Lib.hid (EE.out.keep hb); have cb := EE.out.box.cell; replace XX := Lib.hid (XX.out.after hb); have cx := XX.out.cell; have pf := PF.out _ EE.out.below; clear hb)
            | (go_at_call 24; refine (HK.out _ EE.out.below).mono ?_; rintro e w8 ⟨rfl, hb⟩; replace EE := Lib.hid (EE.out.keep hb); clear hb))
          exact bodyPost_ret (results_tmp rfl _ _ _) rfl ⟨rfl, EE.out.below⟩
        · have hf2 : (x.f == 2) = false := by simp [hf]
          have hsh : shB x.f = true := by
            have : x.f = 1 ∨ x.f = 3 := by omega
            rcases this with h | h <;> rw [h] <;> rfl
          cases h3 : mayB s.ps k may
          · have HOw := Lib.hid (HO1.out (.inr (by rw [Int.toNat_natCast, may_open (by omega) (by omega) hkl, h3])))
            rw [h3] at HMa
            generalize x.f = xf at *
            clear h0 h1 h2 h3 hi hI hsm HO1 hs hpl hx hxx hgx hkl hf hsh
            obtain ⟨pA, lA, pn, pc, ln, lc, ps, ls⟩ := s
            simp only [Sv.val] at *
            subst hpa
            have EE := Lib.hid (SBx.start w #[.slice (some ⟨pb, po, none⟩) pn pc, .slice lA ln lc])
            go_enter Tryz.func8, Tryz.ntmps8
            go_wp2_with (first
              | (refine wpList_load_row rfl 25 _ rfl w.heap.size rfl 25 _ (0, 0) _ EE.out.box Tryz.underlying25 rfl (by kernel_rfl) ?_)
              | (go_at_call 23; refine (HSh.out _).mono ?_; rintro e w1 ⟨rfl, hb⟩; replace EE := Lib.hid (EE.out.keep hb); have cb := EE.out.box.cell; clear hb)
              | (go_at_call 38; refine (HOw.out _ EE.out.below).mono ?_; rintro e w2 ⟨rfl, hb⟩; replace EE := Lib.hid (EE.out.keep hb); clear hb)
              | (refine wpList_store_all rfl 56 _ _ rfl w2.heap.size rfl _ rfl 56 _ (Has.new w2 56 _) (by kernel_rfl) rfl (by simp [Value.oneCell']) ?_; have XX := Lib.hid ((Has.new w2 56 #[.int .i64 0, .int .i64 0]).setRow #[.int .i64 0, .int .i64 0]); replace EE := Lib.hid (EE.out.keep (rowB (newB (Below.refl w2.heap.size w2) (.cells #[.int .i64 0, .int .i64 0] 56)) (Nat.le_refl _) #[.int .i64 0, .int .i64 0])); generalize (w2.alloc (.cells #[.int .i64 0, .int .i64 0] 56)).setRow w2.heap.size #[.int .i64 0, .int .i64 0] = w3 at *; have cb := EE.out.box.cell; have cx := XX.out.cell)
              | (go_at_call 27; refine (HSe.out _ EE.out.below).mono ?_; rintro e w4 ⟨rfl, hb⟩; replace EE := Lib.hid (EE.out.keep hb); have cb := EE.out.box.cell; replace XX := Lib.hid (XX.out.after hb); have cx := XX.out.cell; have pf := PF.out _ EE.out.below; clear hb)
              | (go_at_call 35; refine (HPe.out _).mono ?_; rintro e w5 ⟨rfl, hb⟩; replace EE := Lib.hid (EE.out.keep hb); have cb := EE.out.box.cell; replace XX := Lib.hid (XX.out.after hb); have cx := XX.out.cell; have pf := PF.out _ EE.out.below; clear hb)
              | (go_at_call 39; refine (HMa.out _ EE.out.below).mono ?_; rintro e w6 ⟨rfl, hb⟩; replace EE := Lib.hid (EE.out.keep hb); have cb := EE.out.box.cell; replace XX := Lib.hid (XX.out.after hb); have cx := XX.out.cell; have pf := PF.out _ EE.out.below; clear hb)
              | (go_at_call 24; refine (HK.out _ EE.out.below).mono ?_; rintro e w8 ⟨rfl, hb⟩; replace EE := Lib.hid (EE.out.keep hb); clear hb))
            exact bodyPost_ret (results_tmp rfl _ _ _) rfl ⟨rfl, EE.out.below⟩
          · obtain ⟨m0, m1, _, _⟩ := mayB_facts h3 (by omega) hkl
            have hq := des_of s.ps may m0 m1 (by omega)
            have HOw := Lib.hid fun (W : World) (hb : Below w.heap.size w W) => (show Calls Tryz.prog 38 #[s.val, .int .i64 k, .int .i64 may] W fun e w' => e = .returned (.tuple #[.agg #[.int .i64 (shareF s.ps s.ls k), .int .i64 (shareF (desL s.ps (membersL may)) s.ls k)], .int .i64 0]) ∧ Below W.heap.size W w' from by
              rw [← owed_yes hs hkl (by rw [hgx]; exact hsh) h3 _ hq]; exact Owed_c s k may (by omega) (by omega) W (hi.keep hb))
            have HRo := Lib.hid fun (W : World) (hb : Below w.heap.size w W) => refOwed_c s hs k may hk h3 _ hq W (hi.keep hb)
            rw [h3] at HMa
            generalize x.f = xf at *
            clear h0 h1 h2 h3 hi hI hsm HO1 hs hpl hx hxx hgx hkl hf hsh hq m1
            obtain ⟨pA, lA, pn, pc, ln, lc, ps, ls⟩ := s
            simp only [Sv.val] at *
            subst hpa
            generalize shareF ps ls k = S0 at *
            generalize shareF (desL ps (membersL may)) ls k = S1 at *
            have EE := Lib.hid (SBx.start w #[.slice (some ⟨pb, po, none⟩) pn pc, .slice lA ln lc])
            go_enter Tryz.func8, Tryz.ntmps8
            go_wp2_with (first
              | (refine wpList_load_row rfl 25 _ rfl w.heap.size rfl 25 _ (0, 0) _ EE.out.box Tryz.underlying25 rfl (by kernel_rfl) ?_)
              | (go_at_call 23; refine (HSh.out _).mono ?_; rintro e w1 ⟨rfl, hb⟩; replace EE := Lib.hid (EE.out.keep hb); have cb := EE.out.box.cell; clear hb)
              | (go_at_call 38; refine (HOw.out _ EE.out.below).mono ?_; rintro e w2 ⟨rfl, hb⟩; replace EE := Lib.hid (EE.out.keep hb); clear hb)
              | (refine wpList_store_all rfl 56 _ _ rfl w2.heap.size rfl _ rfl 56 _ (Has.new w2 56 _) (by kernel_rfl) rfl (by simp [Value.oneCell']) ?_; have XX := Lib.hid ((Has.new w2 56 #[.int .i64 0, .int .i64 0]).setRow #[.int .i64 S0, .int .i64 S1]); replace EE := Lib.hid (EE.out.keep (rowB (newB (Below.refl w2.heap.size w2) (.cells #[.int .i64 0, .int .i64 0] 56)) (Nat.le_refl _) #[.int .i64 S0, .int .i64 S1])); generalize (w2.alloc (.cells #[.int .i64 0, .int .i64 0] 56)).setRow w2.heap.size #[.int .i64 S0, .int .i64 S1] = w3 at *; have cb := EE.out.box.cell; have cx := XX.out.cell)
              | (go_at_call 27; refine (HSe.out _ EE.out.below).mono ?_; rintro e w4 ⟨rfl, hb⟩; replace EE := Lib.hid (EE.out.keep hb); have cb := EE.out.box.cell; replace XX := Lib.hid (XX.out.after hb); have cx := XX.out.cell; have pf := PF.out _ EE.out.below; clear hb)
              | (go_at_call 35; refine (HPe.out _).mono ?_; rintro e w5 ⟨rfl, hb⟩; replace EE := Lib.hid (EE.out.keep hb); have cb := EE.out.box.cell; replace XX := Lib.hid (XX.out.after hb); have cx := XX.out.cell; have pf := PF.out _ EE.out.below; clear hb)
              | (go_at_call 39; refine (HMa.out _ EE.out.below).mono ?_; rintro e w6 ⟨rfl, hb⟩; replace EE := Lib.hid (EE.out.keep hb); have cb := EE.out.box.cell; replace XX := Lib.hid (XX.out.after hb); have cx := XX.out.cell; have pf := PF.out _ EE.out.below; clear hb)
              | (go_at_call 24; refine (HK.out _ EE.out.below).mono ?_; rintro e w8 ⟨rfl, hb⟩; replace EE := Lib.hid (EE.out.keep hb); clear hb))
            apply wp_loose 14 [.v _, .v _, .v _, .v _, .v _, .v _, .v _, .v _, .v _, .v _, .v _, .v _, .v _, .v _] (by kernel_rfl) (by kernel_rfl) (by kernel_rfl) (by decide) rfl
            intro K hK
            iterate 3 (apply OblS.val (by kernel_rfl); (intro w' hb _; go_simp; rfl))
            refine OblS.rowG (by kernel_rfl) 56 _ rfl w2.heap.size rfl 56 _ _ XX.out Tryz.underlying56 rfl (by kernel_rfl) ?_
            refine OblS.rowG (by kernel_rfl) 25 _ rfl w.heap.size rfl 25 _ _ EE.out.box Tryz.underlying25 rfl (by kernel_rfl) ?_
            iterate 2 (apply OblS.val (by kernel_rfl); (intro w' hb _; go_simp; rfl))
            apply OblS.call 40 (by kernel_rfl)
            · intro w' hb _; apply Exists.intro; apply And.intro; (go_simp; rfl); exact HRo.out w' (EE.out.keep hb).below
            iterate 3 (apply OblS.val (by kernel_rfl); (intro w' hb _; go_simp; rfl))
            apply OblS.call 24 (by kernel_rfl)
            · intro w' hb _; apply Exists.intro; apply And.intro; (go_simp; rfl); exact HK.out w' (EE.out.keep hb).below
            iterate 2 (apply OblS.val (by kernel_rfl); (intro w' hb _; go_simp; rfl))
            apply OblS.nil
            apply hK
            intro w9 hb hH
            clear hH hK K
            simp only [Act.put, List.setIfInBounds_toArray, List.set_cons_zero, List.set_cons_succ, List.drop_succ_cons, List.drop_zero]
            have EF := Lib.hid (EE.out.keep hb)
            clear hb
            go_wp2
            exact bodyPost_ret (results_tmp rfl _ _ _) rfl ⟨rfl, EF.out.below⟩
end Go.Proofs
namespace Go.Proofs.YtplhaohcmhepbaaGreatDoor.shareOweds
open Go.ChangeShapes Go.WideShapes Go.ChangeAt Go.RowKit Go.Proofs

theorem own : ownKnob Tryz.prog.godebug = none := f_own
theorem laidOut : laidOutB Tryz.prog = true := f_laid
set_option maxRecDepth 100000 in
theorem lifted (os : Os) (started : os.Started) (H : Type) (enc : TypeId × Value → H) :
    ReturnsInHanded {} Tryz.checked os 8 .any (fun w args => (Rows.shareOwedsSpec.pre enc Tryz.prog Tryz.f8 [] false w args ∧ laidMetH Tryz.prog Rows.shareOwedsRow.laid w) ∧ sizedMet enc Tryz.prog Tryz.f8 (OpenSpec.ofChange Rows.shareOwedsSpec) false w args)
      (Rows.shareOwedsSpec.post enc Tryz.prog Tryz.f8 false true false false) := by
  refine returnsInHanded_of_change_and (C := Tryz.checked) (X := fun w _ => laidMetH Tryz.prog Rows.shareOwedsRow.laid w) (fun _ _ _ hh h => h.of_heap hh) own started (by kernel_rfl) Tryz.func8
    (ChangeSpec.witness_shaped (enc := enc) (C := Tryz.checked) (os := os) (X := fun w _ => laidMetH Tryz.prog Rows.shareOwedsRow.laid w) false (World.laidAll Tryz.prog os Rows.shareOwedsRow.laid) #[.agg #[.slice none 0 0, .slice none 0 0], .int .i64 0, .int .i64 0] 8 (World.laidAll_os _ _ _) (World.shaped_of_ZipB (by kernel_rfl) (by kernel_rfl)) (by kernel_rfl) (by kernel_rfl) (by kernel_rfl) (by rw [MakeChecks.laidMetH_plain _ _ _ (by kernel_rfl)]; exact laidMet_laidAll _ (by kernel_rfl) (by kernel_rfl))) ?_
  intro W base args ds gs before hval0 hW _ _ hL _
  have hval : ∀ (j : Nat) t v, Tryz.f8.params[j]? = some t → args[j]? = some v → Value.okWide Tryz.prog W .any base t v := hval0
  have hW' := hW
  obtain ⟨p, q, hA0, hV, rfl, hfz, hnd⟩ := hW
  have hA : DataW.TrodAll enc Tryz.prog W 0 (fun _ => true) true Tryz.f8.params.toList args.toList ds p := hA0
  rw [Tryz.params8] at hA hval
  obtain ⟨v0, vs0, d0, ds0, p0, q0, hargs, rfl, rfl, h0, r0⟩ := trodAll_cons hA
  obtain ⟨v1, vs1, d1, ds1, p1, q1, rfl, rfl, rfl, h1, r1⟩ := trodAll_cons r0
  obtain ⟨v2, vs2, d2, ds2, p2, q2, rfl, rfl, rfl, h2, r2⟩ := trodAll_cons r1
  obtain ⟨rfl, rfl, rfl⟩ := trodAll_nil r2
  obtain rfl : args = #[v0, v1, v2] := by cases args; simp_all
  obtain ⟨rfl, rfl⟩ := trodVars_none hV
  have k0 := h0
  have lt0 : ∀ x ∈ p0, x.block < W.heap.size := by obtain ⟨m, hm⟩ := k0; exact DataW.trod_lt m _ _ _ hm
  have u0 := hval 0 25 v0 rfl rfl
  obtain ⟨s0, rfl, hd0, wp0, wl0, hx0⟩ := arg_season u0 h0
  have k1 := h1
  have lt1 : ∀ x ∈ p1, x.block < W.heap.size := by obtain ⟨m, hm⟩ := k1; exact DataW.trod_lt m _ _ _ hm
  have u1 := hval 1 3 v1 rfl rfl
  obtain ⟨a1, rfl, w1⟩ := arg_int u1 h1
  have k2 := h2
  have lt2 : ∀ x ∈ p2, x.block < W.heap.size := by obtain ⟨m, hm⟩ := k2; exact DataW.trod_lt m _ _ _ hm
  have u2 := hval 2 3 v2 rfl rfl
  obtain ⟨a2, rfl, w2⟩ := arg_int u2 h2
  have htab := tab_of_laid (show laidMet Tryz.prog Rows.shareOwedsRow.laid W from hL)
  clear hA0 hval0
  simp only [List.append_nil] at hW'
  refine (shareOweds_walk s0 a1 a2 W hd0 (itoa_tab htab)).mono fun e W' ⟨he, bel⟩ => ?_
  subst he
  exact ⟨_, rfl, _, _, _, [], _, [], hW', trodAll_mk1 (shut_bool Tryz.underlying4 _), (trodAll_cons_mk (Below.trod laidOut (by kernel_rfl) (of_decide_eq_true (by kernel_rfl)) k0 bel lt0) (trodAll_cons_mk (Below.trod laidOut (by kernel_rfl) (of_decide_eq_true (by kernel_rfl)) k1 bel lt1) (trodAll_cons_mk (Below.trod laidOut (by kernel_rfl) (of_decide_eq_true (by kernel_rfl)) k2 bel lt2) trodAll_mk0))), rfl, bel.frame _, fun h => by cases h⟩

theorem both_true {a b : Bool} (h : a = true) (g : b = true) : (a && b) = true := by rw [h, g]; rfl
set_option maxHeartbeats 16000000 in
theorem closed : joinedFacts Tryz.prog 8 Tryz.f8 Rows.shareOwedsSpec Rows.shareOwedsRow = true := by
  unfold joinedFacts
  repeat' (with_reducible refine both_true ?_ ?_)
  all_goals first | (with_reducible exact f_laid) | (with_reducible exact f_rowed) | (with_reducible exact f_heard) | (with_reducible exact f_enter) | (with_reducible rw [f_keys]; as_aux_lemma => kernel_rfl) | (with_reducible rw [f_lift]; as_aux_lemma => kernel_rfl) | (with_reducible rw [f_make]; as_aux_lemma => kernel_rfl) | (as_aux_lemma => kernel_rfl)

theorem row_holds : Rows.ShareOwedsSaid :=
  OpenClaim.holds_of_wide 8 Tryz.f8 rfl rfl rfl rfl rfl rfl rfl ⟨rfl, rfl, rfl, rfl, rfl⟩ rfl rfl rfl rfl rfl (by as_aux_lemma => kernel_rfl) Tryz.func8 closed
    (of_decide_eq_true (by kernel_rfl)) (by unfold Func.isWrapper; first | (rw [if_pos (by decide +kernel)]; kernel_rfl) | (rw [if_neg (by decide +kernel)]; exact ⟨rfl, rfl⟩))
    (fun os started H enc _ => lifted os started H enc)

set_option maxHeartbeats 8000000 in
theorem shareOweds_holds : Rows.ShareOwedsCardSaid :=
  Claim7.holds_tied_plain_at .later [] [.data, .data, .data, .data, .pinned] true (true, "7e62b5f23aa16cc2579dbf745918b39c2216085a6a4405f0c28cfd6d2389e0e4") true
    row_holds (fun _ h => by cases h) (by as_aux_lemma => kernel_rfl) (fun _ h => by cases h) shareOweds_row_tie rfl ⟨rfl, rfl⟩ (by as_aux_lemma => kernel_rfl) rfl
    (fun f fn hf hfn => by
      obtain rfl : f = 8 := Option.some.inj ((show Tryz.prog.funcNamed "bathyal/bathyallaw05.ShareOweds" = some 8 by kernel_rfl).symm.trans hf) |>.symm
      obtain rfl : fn = Tryz.f8 := (Option.some.inj (Tryz.func8.symm.trans hfn)).symm
      exact ⟨by kernel_rfl, fun j t ht => by
        rw [Tryz.params8] at ht
        have hm : t ∈ [25, 3, 3] := by simpa using Array.mem_of_getElem? ht
        have hall : ([25, 3, 3].all fun u => !Tryz.prog.wantsStandIn u) = true := by kernel_rfl
        exact (show Tryz.prog.wantsStandIn t = false by simpa using List.all_eq_true.1 hall t hm)⟩)
    (by as_aux_lemma => kernel_rfl)
#print axioms shareOweds_holds
end Go.Proofs.YtplhaohcmhepbaaGreatDoor.shareOweds
