/-
  The statement GasSures holds for every input: the law returns true and what came in reads as before.
-/
import Derived.Test.YtahochgbkhpefaaGreatDoorP17
import Derived.Test.YtahochgbkhpefaaGreatDoorP11
import Derived.Test.YtahochgbkhpefaaGreatDoorRows
import Derived.Test.YtahochgbkhpefaaGreatDoorTie
import Derived.Test.YtahochgbkhpefaaGreatDoorCards
import Derived.Test.YtahochgbkhpefaaGreatDoorChecked
import Derived.ProofKit
import Derived.OpenShut
import Derived.LaidMore
import Derived.Stop.Joined
import Derived.SevenTiedAt
import Derived.Carry
namespace Go.Proofs
open Go.RowKit Go.Shelf Gas
attribute [local go_sem ↓] Go.wp_at_zero Go.wp_at_succ

/-- The boxes of a table and of the first man. -/
structure Bm (w : World) (g : Nat) (pA sA : Option Addr) (pn pc sn sc : Nat) (mA : Option Addr) (mn mc : Nat) (W : World) : Prop where
  below : Below w.heap.size w W
  tab : Has W w.heap.size 50 #[.slice pA pn pc, .slice sA sn sc]
  man : Has W g 53 #[.slice mA mn mc]
theorem Bm.keep {w W W' : World} {g : Nat} {pA sA : Option Addr} {pn pc sn sc : Nat} {mA : Option Addr} {mn mc : Nat} (h : Bm w g pA sA pn pc sn sc mA mn mc W) (hb : Below W.heap.size W W') : Bm w g pA sA pn pc sn sc mA mn mc W' := ⟨nextB h.below hb, h.tab.after hb, h.man.after hb⟩
theorem Bm.start {w W : World} {pA sA : Option Addr} {pn pc sn sc : Nat} (h : Below w.heap.size w W) (ht : Has W w.heap.size 50 #[.slice pA pn pc, .slice sA sn sc]) (mA : Option Addr) (mn mc : Nat) : Bm w W.heap.size pA sA pn pc sn sc mA mn mc (W.alloc (.cells #[.slice mA mn mc] 53)) :=
  ⟨newB h _, ht.alloc _, Has.new W 53 _⟩
set_option maxHeartbeats 2000000 in
set_option maxRecDepth 50000 in
theorem gasSures_walk (t : Tm) (hrn : t.rn ≤ 1000000) (hpn : t.ps.length = t.pn) (A A2 : Option Addr) (n c n2 c2 : Nat) (ms : List Mn) (dive : List St) (hA2 : A2 = none → c2 = 0) (w : World) (hp : SlOf prC 2 w t.pA t.pn t.ps) (hs : SlOf inC 1 w t.sA t.sn t.ss) (hm : SlOf Mn.cs 1 w A n ms) (hr : ∀ m ∈ ms, SlOf prC 2 w m.rA m.rn m.rs) (hd : SlOf St.cs 4 w A2 n2 dive) :
    Calls Tryz.prog 11 #[t.tab, .slice A n c, .slice A2 n2 c2] w fun e w' => e = .returned (.bool true) ∧ Below w.heap.size w w' := by
  have HN := Lib.hid hm.1
  have T0 := Lib.hid (Has.new w 50 #[.slice t.pA t.pn t.pc, .slice t.sA t.sn t.sc])
  have B0 := Lib.hid (newB (Below.refl w.heap.size w) (.cells #[.slice t.pA t.pn t.pc, .slice t.sA t.sn t.sc] 50))
  have HAd := Lib.hid fun (h : 0 < n) => hm.addr h
  have HSh := Lib.hid fun (m : Mn) (W : World) => (show Calls Tryz.prog 26 #[t.tab, .agg #[.slice m.rA m.rn m.rc], .slice A2 n2 c2] W fun e w' => e = .returned (.bool (shortB (m.tm t) n2)) ∧ Below W.heap.size W w' from short_c (m.tm t) A2 n2 c2 W)
  by_cases hn0 : n = 0
  · subst hn0
    clear hp hs hm hr hd hpn HAd HSh hA2 hrn
    obtain ⟨pA, sA, rA, pn, pc, sn, sc, rn, rc, ps, ss, rs⟩ := t
    simp only [Tm.tab] at *
    go_enter Tryz.func11, Tryz.ntmps11
    go_wp2_with (first
      | (go_at_call 15; refine (knownLaw_c _).mono ?_; rintro e w15 ⟨rfl, hb⟩; have HB9 := Lib.hid (nextB B0.out hb); clear hb))
    exact bodyPost_ret (results_tmp rfl _ _ _) rfl ⟨rfl, HB9.out⟩
  by_cases hn8 : 8 < n
  · have hz1 : ((n : Int) == 0) = false := by simpa using hn0
    have hz3 : (8 : Int) < (n : Int) := by omega
    clear hp hs hm hr hd hpn HAd HSh hA2 hrn
    obtain ⟨pA, sA, rA, pn, pc, sn, sc, rn, rc, ps, ss, rs⟩ := t
    simp only [Tm.tab] at *
    go_enter Tryz.func11, Tryz.ntmps11
    go_wp2_with (first
      | (go_at_call 15; refine (knownLaw_c _).mono ?_; rintro e w15 ⟨rfl, hb⟩; have HB9 := Lib.hid (nextB B0.out hb); clear hb))
    exact bodyPost_ret (results_tmp rfl _ _ _) rfl ⟨rfl, HB9.out⟩
  have hn8' : n ≤ 8 := by omega
  have hz1 : ((n : Int) == 0) = false := by simpa using hn0
  have hz2 : decide ((8 : Int) < (n : Int)) = false := decide_eq_false (by omega)
  have hz3 : ¬ (8 : Int) < (n : Int) := by omega
  obtain ⟨b, o, he⟩ := HAd.out (by omega)
  subst he
  have HFi0 := Lib.hid fun (m : Mn) (hm' : m ∈ ms) (hz : shortB (m.tm t) n2 = true) (W : World) (hb : Below w.heap.size w W) => (show Calls Tryz.prog 32 #[t.tab, .agg #[.slice m.rA m.rn m.rc], .slice A2 n2 c2] W fun e w' => e = .returned (.bool (definedB t.ps t.ss m.rs dive 0)) ∧ Below W.heap.size W w' from by
    obtain ⟨q1, q2⟩ := short_small hz
    exact fine_c (m.tm t) q1 A2 n2 c2 dive (by omega) W ⟨hp.keep hb, hs.keep hb, (hr m hm').keep hb⟩ (hd.keep hb))
  obtain ⟨gB, hgB⟩ : ∃ gB : Nat → Bool, gB = fun k => (ms.take k).all fun m => definedB t.ps t.ss m.rs dive 0 := ⟨_, rfl⟩
  have HG0 := Lib.hid (show gB 0 = true by rw [hgB]; simp)
  have HGs := Lib.hid fun (k : Nat) (m : Mn) (hx : ms[k]? = some m) => (show gB (k + 1) = (gB k && definedB t.ps t.ss m.rs dive 0) by
    rw [hgB]; simp only [List.take_add_one, hx, Option.toList_some, List.all_append, List.all_cons, List.all_nil, Bool.and_true])
  have HGn := Lib.hid (show gB n = ms.all fun m => definedB t.ps t.ss m.rs dive 0 by rw [hgB]; show ((ms.take n).all _) = _; rw [List.take_of_length_le (by have := HN.out; omega)])
  clear hgB
  have HME := Lib.hid fun (m0 : Mn) (hm0 : m0 ∈ ms) (hsh0 : shortB (m0.tm t) n2 = true) => man_end t hpn A2 n2 c2 hA2 dive m0 w hsh0 ⟨hp, hs, hr m0 hm0⟩ hd
  have HCE := Lib.hid fun (m0 : Mn) (hm0 : m0 ∈ ms) (hsh : ∀ m ∈ ms, shortB (m.tm t) n2 = true) => crew_end t hrn hpn (some ⟨b, o, none⟩) A2 n c n2 c2 hn8' ms dive w m0 hm0 hsh hp hs hm hr hd
  have HPm := Lib.hid fun (W : World) (hb : Below w.heap.size w W) => hm.keep hb
  clear hp hs hm hr hd hpn hA2 hrn HAd
  obtain ⟨pA, sA, rA, pn, pc, sn, sc, rn, rc, ps, ss, rs⟩ := t
  simp only [Tm.tab] at *
  go_enter Tryz.func11, Tryz.ntmps11
  go_wp2
  go_loopw [7, 8] (fun v i wr => ∃ k : Nat, k ≤ n ∧ i = .int .i64 k ∧ v = .bool (gB k) ∧ Below w.heap.size w wr ∧ Has wr w.heap.size 50 #[.slice pA pn pc, .slice sA sn sc] ∧ ∀ (j : Nat) m, j < k → ms[j]? = some m → shortB (m.tm ⟨pA, sA, rA, pn, pc, sn, sc, rn, rc, ps, ss, rs⟩) n2 = true) (fun _ i _ => n - (intOf i).toNat)
  case atStart => exact ⟨0, by omega, rfl, by rw [HG0.out], B0.out, T0.out, fun j m hj => absurd hj (by omega)⟩
  case round =>
    obtain ⟨k, hk, rfl, rfl, hB, hT, hQ⟩ := hrel
    have HB := Lib.hid hB; have HT := Lib.hid hT; have HQ := Lib.hid hQ
    clear hB hT hQ
    by_cases hkn : k < n
    · have hkl : k < ms.length := by rw [HN.out]; exact hkn
      have hx := List.getElem?_eq_getElem hkl
      have hmem := List.getElem_mem hkl
      obtain ⟨m, hmm⟩ : ∃ m, m = ms[k] := ⟨_, rfl⟩
      rw [← hmm] at hx hmem
      have HR := Lib.hid fun (W : World) (hb : Below w.heap.size w W) => (HPm.out W hb).range Mn.cs_len hx
      have K1 := Lib.hid fun (W : World) => HSh.out m W
      obtain ⟨sb, hsb⟩ : ∃ sb, shortB (m.tm ⟨pA, sA, rA, pn, pc, sn, sc, rn, rc, ps, ss, rs⟩) n2 = sb := ⟨_, rfl⟩
      rw [hsb] at K1
      have K2 := Lib.hid fun (hz : sb = true) => HFi0.out m hmem (hsb.trans hz)
      have HG := Lib.hid (HGs.out k m hx)
      have HQ2 := Lib.hid fun (hz : sb = true) (j : Nat) (m' : Mn) (hj : j < k + 1) (hm' : ms[j]? = some m') => (show shortB (m'.tm ⟨pA, sA, rA, pn, pc, sn, sc, rn, rc, ps, ss, rs⟩) n2 = true by
        rcases Nat.lt_succ_iff_lt_or_eq.1 hj with h | h
        · exact HQ.out j m' h hm'
        · subst h
          rw [hx] at hm'
          cases hm'
          exact hsb.trans hz)
      clear hx hmm hmem hsb HME HCE
      obtain ⟨fb, hfb⟩ : ∃ fb, definedB ps ss m.rs dive 0 = fb := ⟨_, rfl⟩
      rw [hfb] at K2 HG
      clear hfb
      obtain ⟨mA, mn, mc, mr⟩ := m
      simp only at K1 K2 HR
      go_wp2
      apply wp_loose 8 (.v (.agg #[.slice pA pn pc, .slice sA sn sc]) :: .v (.slice (some ⟨b, o, none⟩) n c) :: .v (.int .i64 k) :: .v (.pointer (some ⟨b, o + k * 1, none⟩)) :: .v (.agg [.slice mA mn mc].toArray) :: .v (.slice A2 n2 c2) :: .v (.bool sb) :: .v (.bool (!sb)) :: []) (by kernel_rfl) (by kernel_rfl) (by kernel_rfl) (by decide) rfl
      intro K hK
      refine OblS.row rfl 50 (.tmp 3) rfl w.heap.size (by kernel_rfl) 50 _ _ HT.out Tryz.underlying50 rfl (by kernel_rfl) ?_
      refine OblS.val (by kernel_rfl) (fun w' _ _ => (by kernel_rfl)) ?_
      refine OblS.val (by kernel_rfl) (fun w' _ _ => (by kernel_rfl)) ?_
      refine OblS.val (by kernel_rfl) (fun w' _ _ => (by go_simp; try first | done | rfl)) ?_
      refine OblS.mid (by kernel_rfl) 53 (.tmp 37) rfl b (o + k * 1) rfl [.slice mA mn mc] _ (fun W hb => HR.out W (nextB HB.out hb)) Tryz.underlying53 rfl (by kernel_rfl) ?_
      refine OblS.val (by kernel_rfl) (fun w' _ _ => (by kernel_rfl)) ?_
      refine OblS.call 26 (by kernel_rfl) (fun w' hb _ => ⟨#[.agg #[.slice pA pn pc, .slice sA sn sc], .agg #[.slice mA mn mc], .slice A2 n2 c2], (by kernel_rfl), K1.out w'⟩) ?_
      refine OblS.val (by kernel_rfl) (fun w' _ _ => (by go_simp; try first | done | rfl)) ?_
      apply OblS.nil
      apply hK
      intro w2 hb hH
      clear hH hK K
      have B2 := Lib.hid (nextB HB.out hb); have T2 := Lib.hid (HT.out.after hb)
      clear hb
      simp only [Act.put, List.setIfInBounds_toArray, List.set_cons_zero, List.set_cons_succ, List.drop_succ_cons, List.drop_zero]
      cases sb
      · clear K2 HQ2
        go_wp2_with (first
          | (go_at_call 15; refine (knownLaw_c _).mono ?_; rintro e w15 ⟨rfl, hb⟩; have HB9 := Lib.hid (nextB B2.out hb); clear hb))
        exact bodyPost_ret (results_tmp rfl _ _ _) rfl ⟨rfl, HB9.out⟩
      · replace K2 := Lib.hid (K2.out rfl)
        replace HQ2 := Lib.hid (HQ2.out rfl)
        cases hgk : gB k
        · rw [hgk] at HG
          clear hgk
          go_wp2
          apply wp_loose 11 (.v (.bool false) :: .v (.bool false) :: .v undef :: .v undef :: .v undef :: .v undef :: .v undef :: .v undef :: .v undef :: .v (.bool false) :: .v (.bool false) :: []) (by kernel_rfl) (by kernel_rfl) (by kernel_rfl) (by decide) rfl
          intro K hK
          iterate 2 refine OblS.val (by kernel_rfl) (fun w' _ _ => (by kernel_rfl)) ?_
          iterate 7 refine OblS.skip (by kernel_rfl) ?_
          iterate 2 refine OblS.val (by kernel_rfl) (fun w' _ _ => (by kernel_rfl)) ?_
          apply OblS.nil
          apply hK
          intro w3 hb hH
          clear hH hK K
          have B3 := Lib.hid (nextB B2.out hb); have T3 := Lib.hid (T2.out.after hb)
          clear hb
          simp only [Act.put, List.setIfInBounds_toArray, List.set_cons_zero, List.set_cons_succ, List.drop_succ_cons, List.drop_zero]
          go_wp2
          go_roundw
          case rel => exact ⟨k + 1, by omega, by go_num, by rw [HG.out]; rfl, B3.out, T3.out, HQ2.out⟩
          case measure => simp [intOf]; omega
        · rw [hgk] at HG
          clear hgk
          go_wp2
          apply wp_loose 11 (.v (.bool true) :: .v (.bool true) :: .v (.agg #[.slice pA pn pc, .slice sA sn sc]) :: .v (.slice (some ⟨b, o, none⟩) n c) :: .v (.int .i64 k) :: .v (.pointer (some ⟨b, o + k * 1, none⟩)) :: .v (.agg [.slice mA mn mc].toArray) :: .v (.slice A2 n2 c2) :: .v (.bool fb) :: .v (.bool fb) :: .v (.bool fb) :: []) (by kernel_rfl) (by kernel_rfl) (by kernel_rfl) (by decide) rfl
          intro K hK
          iterate 2 refine OblS.val (by kernel_rfl) (fun w' _ _ => (by kernel_rfl)) ?_
          refine OblS.rowG (by kernel_rfl) 50 (.tmp 3) (by kernel_rfl) w.heap.size (by kernel_rfl) 50 _ _ T2.out Tryz.underlying50 rfl (by kernel_rfl) ?_
          refine OblS.val (by kernel_rfl) (fun w' _ _ => (by kernel_rfl)) ?_
          refine OblS.val (by kernel_rfl) (fun w' _ _ => (by kernel_rfl)) ?_
          refine OblS.val (by kernel_rfl) (fun w' _ _ => (by go_simp; try first | done | rfl)) ?_
          refine OblS.mid (by kernel_rfl) 53 (.tmp 48) rfl b (o + k * 1) rfl [.slice mA mn mc] _ (fun W hb => HR.out W (nextB B2.out hb)) Tryz.underlying53 rfl (by kernel_rfl) ?_
          refine OblS.val (by kernel_rfl) (fun w' _ _ => (by kernel_rfl)) ?_
          refine OblS.call 32 (by kernel_rfl) (fun w' hb _ => ⟨#[.agg #[.slice pA pn pc, .slice sA sn sc], .agg #[.slice mA mn mc], .slice A2 n2 c2], (by kernel_rfl), K2.out w' (nextB B2.out hb)⟩) ?_
          iterate 2 refine OblS.val (by kernel_rfl) (fun w' _ _ => (by kernel_rfl)) ?_
          apply OblS.nil
          apply hK
          intro w3 hb hH
          clear hH hK K
          have B3 := Lib.hid (nextB B2.out hb); have T3 := Lib.hid (T2.out.after hb)
          clear hb
          simp only [Act.put, List.setIfInBounds_toArray, List.set_cons_zero, List.set_cons_succ, List.drop_succ_cons, List.drop_zero]
          go_wp2
          go_roundw
          case rel => exact ⟨k + 1, by omega, by go_num, by rw [HG.out]; rfl, B3.out, T3.out, HQ2.out⟩
          case measure => simp [intOf]; omega
    · have hke : k = n := by omega
      subst hke
      have h0l : 0 < ms.length := by have := HN.out; omega
      have hx := List.getElem?_eq_getElem h0l
      have hmem := List.getElem_mem h0l
      obtain ⟨m, hmm⟩ : ∃ m, m = ms[0] := ⟨_, rfl⟩
      rw [← hmm] at hx hmem
      have hR0 := (HPm.out _ HB.out).range Mn.cs_len hx
      have hall : ∀ m' ∈ ms, shortB (m'.tm ⟨pA, sA, rA, pn, pc, sn, sc, rn, rc, ps, ss, rs⟩) n2 = true := fun m' hm' => by
        obtain ⟨j, hj, e⟩ := List.getElem_of_mem hm'
        exact HQ.out j m' (by have := HN.out; omega) (by rw [List.getElem?_eq_getElem hj, e])
      obtain ⟨s0, e0, wm, wp, we, r1, r2, hME⟩ := HME.out m hmem (hall m hmem)
      obtain ⟨CL, hCE⟩ := HCE.out m hmem hall
      have HG := Lib.hid HGn.out
      clear HME HCE hx hmm hmem HSh HFi0 HG0 HGs HQ HPm hall HGn h0l
      try simp only at hME
      try simp only at hCE
      generalize (ms.all fun m => definedB ps ss m.rs dive 0) = G at *
      generalize definedB ps ss m.rs dive 0 = f0 at *
      have HSu := Lib.hid hME.sure
      have HWo := Lib.hid hME.worst
      have HFi := Lib.hid hME.fine
      have HRw0 := Lib.hid hME.rworst
      have hway := hME.way
      clear hME
      simp only [Tm.tab] at HSu HWo HFi HRw0
      unfold CrewEnd at hCE
      simp only [Tm.tab] at hCE
      obtain ⟨mA, mn, mc, mr⟩ := m
      try simp only at HSu
      try simp only at HWo
      try simp only at HFi
      try simp only at HRw0
      try simp only at hR0
      have hc0 : wr.cell? ⟨b, o, none⟩ = some (.slice mA mn mc) := by simpa [Mn.cs] using hR0 0 _ rfl
      clear hR0
      rw [HG.out]
      clear HG HN
      have EE := Lib.hid (Bm.start HB.out HT.out mA mn mc)
      have ct := EE.out.tab.cell; have cm := EE.out.man.cell
      rcases hCE with ⟨hG, hn6, hcl, hc1, hc2⟩ | ⟨hG, hc⟩
      · subst hG
        have HCr := Lib.hid hc1; have HRc := Lib.hid hc2
        have HLn := Lib.hid (show CL.length ≤ 1000000 by omega)
        clear hc1 hc2 hcl
        rcases hway with ⟨rfl, rfl, rfl, rfl, rfl, rfl⟩ | ⟨rfl, hr1, rfl, rfl, rfl, rfl, rfl⟩ | ⟨rfl, hr1, rfl, rfl, rfl, rfl, rfl⟩
        · clear HRw0
          go_wp2_with (first
            | (go_at_call 40; refine (HSu.out _ EE.out.below).mono ?_; rintro e w40 ⟨rfl, hb⟩; replace EE := Lib.hid (EE.out.keep hb); replace ct := EE.out.tab.cell; replace cm := EE.out.man.cell; clear hb)
            | (go_at_call 43; refine (HWo.out _ EE.out.below).mono ?_; rintro e w43 ⟨rfl, hb⟩; replace EE := Lib.hid (EE.out.keep hb); replace ct := EE.out.tab.cell; replace cm := EE.out.man.cell; clear hb)
            | (go_at_call 45; refine (HCr.out _ EE.out.below).mono ?_; rintro e w45 ⟨A45, c45, rfl, hl45, hb⟩; replace EE := Lib.hid (EE.out.keep hb); have HL := Lib.hid hl45; clear hl45; replace ct := EE.out.tab.cell; replace cm := EE.out.man.cell; clear hb)
            | (go_at_call 47; refine (HRc.out _ EE.out.below).mono ?_; rintro e w47 ⟨A47, c47, rfl, hl47, hb⟩; replace EE := Lib.hid (EE.out.keep hb); replace HL := Lib.hid (HL.out.keep hb); have HL2 := Lib.hid hl47; clear hl47; replace ct := EE.out.tab.cell; replace cm := EE.out.man.cell; clear hb)
            | (go_at_call 46; refine (same_c A45 A47 _ c45 c47 _ HLn.out _ HL.out HL2.out).mono ?_; rintro e w46 ⟨rfl, hb⟩; replace EE := Lib.hid (EE.out.keep hb); replace ct := EE.out.tab.cell; replace cm := EE.out.man.cell; clear hb)
            | (go_at_call 32; refine (HFi.out _ EE.out.below).mono ?_; rintro e w32 ⟨rfl, hb⟩; replace EE := Lib.hid (EE.out.keep hb); replace ct := EE.out.tab.cell; replace cm := EE.out.man.cell; clear hb)
            | (go_at_call 15; refine (knownLaw_c _).mono ?_; rintro e w15 ⟨rfl, hb⟩; have HB9 := Lib.hid (nextB EE.out.below hb); clear hb))
          exact bodyPost_ret (results_tmp rfl _ _ _) rfl ⟨rfl, HB9.out⟩
        · have HRw := Lib.hid (HRw0.out rfl)
          clear HRw0
          go_wp2_with (first
            | (go_at_call 40; refine (HSu.out _ EE.out.below).mono ?_; rintro e w40 ⟨rfl, hb⟩; replace EE := Lib.hid (EE.out.keep hb); replace ct := EE.out.tab.cell; replace cm := EE.out.man.cell; clear hb)
            | (go_at_call 43; refine (HWo.out _ EE.out.below).mono ?_; rintro e w43 ⟨rfl, hb⟩; replace EE := Lib.hid (EE.out.keep hb); replace ct := EE.out.tab.cell; replace cm := EE.out.man.cell; clear hb)
            | (go_at_call 45; refine (HCr.out _ EE.out.below).mono ?_; rintro e w45 ⟨A45, c45, rfl, hl45, hb⟩; replace EE := Lib.hid (EE.out.keep hb); have HL := Lib.hid hl45; clear hl45; replace ct := EE.out.tab.cell; replace cm := EE.out.man.cell; clear hb)
            | (go_at_call 47; refine (HRc.out _ EE.out.below).mono ?_; rintro e w47 ⟨A47, c47, rfl, hl47, hb⟩; replace EE := Lib.hid (EE.out.keep hb); replace HL := Lib.hid (HL.out.keep hb); have HL2 := Lib.hid hl47; clear hl47; replace ct := EE.out.tab.cell; replace cm := EE.out.man.cell; clear hb)
            | (go_at_call 46; refine (same_c A45 A47 _ c45 c47 _ HLn.out _ HL.out HL2.out).mono ?_; rintro e w46 ⟨rfl, hb⟩; replace EE := Lib.hid (EE.out.keep hb); replace ct := EE.out.tab.cell; replace cm := EE.out.man.cell; clear hb)
            | (go_at_call 32; refine (HFi.out _ EE.out.below).mono ?_; rintro e w32 ⟨rfl, hb⟩; replace EE := Lib.hid (EE.out.keep hb); replace ct := EE.out.tab.cell; replace cm := EE.out.man.cell; clear hb)
            | (go_at_call 48; refine (HRw.out _ EE.out.below).mono ?_; rintro e w48 ⟨rfl, hb⟩; replace EE := Lib.hid (EE.out.keep hb); replace ct := EE.out.tab.cell; replace cm := EE.out.man.cell; clear hb)
            | (go_at_call 15; refine (knownLaw_c _).mono ?_; rintro e w15 ⟨rfl, hb⟩; have HB9 := Lib.hid (nextB EE.out.below hb); clear hb))
          exact bodyPost_ret (results_tmp rfl _ _ _) rfl ⟨rfl, HB9.out⟩
        · have HRw := Lib.hid (HRw0.out rfl)
          clear HRw0
          go_wp2_with (first
            | (go_at_call 40; refine (HSu.out _ EE.out.below).mono ?_; rintro e w40 ⟨rfl, hb⟩; replace EE := Lib.hid (EE.out.keep hb); replace ct := EE.out.tab.cell; replace cm := EE.out.man.cell; clear hb)
            | (go_at_call 43; refine (HWo.out _ EE.out.below).mono ?_; rintro e w43 ⟨rfl, hb⟩; replace EE := Lib.hid (EE.out.keep hb); replace ct := EE.out.tab.cell; replace cm := EE.out.man.cell; clear hb)
            | (go_at_call 45; refine (HCr.out _ EE.out.below).mono ?_; rintro e w45 ⟨A45, c45, rfl, hl45, hb⟩; replace EE := Lib.hid (EE.out.keep hb); have HL := Lib.hid hl45; clear hl45; replace ct := EE.out.tab.cell; replace cm := EE.out.man.cell; clear hb)
            | (go_at_call 47; refine (HRc.out _ EE.out.below).mono ?_; rintro e w47 ⟨A47, c47, rfl, hl47, hb⟩; replace EE := Lib.hid (EE.out.keep hb); replace HL := Lib.hid (HL.out.keep hb); have HL2 := Lib.hid hl47; clear hl47; replace ct := EE.out.tab.cell; replace cm := EE.out.man.cell; clear hb)
            | (go_at_call 46; refine (same_c A45 A47 _ c45 c47 _ HLn.out _ HL.out HL2.out).mono ?_; rintro e w46 ⟨rfl, hb⟩; replace EE := Lib.hid (EE.out.keep hb); replace ct := EE.out.tab.cell; replace cm := EE.out.man.cell; clear hb)
            | (go_at_call 32; refine (HFi.out _ EE.out.below).mono ?_; rintro e w32 ⟨rfl, hb⟩; replace EE := Lib.hid (EE.out.keep hb); replace ct := EE.out.tab.cell; replace cm := EE.out.man.cell; clear hb)
            | (go_at_call 48; refine (HRw.out _ EE.out.below).mono ?_; rintro e w48 ⟨rfl, hb⟩; replace EE := Lib.hid (EE.out.keep hb); replace ct := EE.out.tab.cell; replace cm := EE.out.man.cell; clear hb)
            | (go_at_call 15; refine (knownLaw_c _).mono ?_; rintro e w15 ⟨rfl, hb⟩; have HB9 := Lib.hid (nextB EE.out.below hb); clear hb))
          exact bodyPost_ret (results_tmp rfl _ _ _) rfl ⟨rfl, HB9.out⟩
      · have HCr := Lib.hid hc
        clear hc
        rcases hG with hG | ⟨hG, hn6⟩
        · subst hG
          rcases hway with ⟨rfl, rfl, rfl, rfl, rfl, rfl⟩ | ⟨rfl, hr1, rfl, rfl, rfl, rfl, rfl⟩ | ⟨rfl, hr1, rfl, rfl, rfl, rfl, rfl⟩
          · clear HRw0
            go_wp2_with (first
              | (go_at_call 40; refine (HSu.out _ EE.out.below).mono ?_; rintro e w40 ⟨rfl, hb⟩; replace EE := Lib.hid (EE.out.keep hb); replace ct := EE.out.tab.cell; replace cm := EE.out.man.cell; clear hb)
              | (go_at_call 43; refine (HWo.out _ EE.out.below).mono ?_; rintro e w43 ⟨rfl, hb⟩; replace EE := Lib.hid (EE.out.keep hb); replace ct := EE.out.tab.cell; replace cm := EE.out.man.cell; clear hb)
              | (go_at_call 45; refine (HCr.out _ EE.out.below).mono ?_; rintro e w45 ⟨rfl, hb⟩; replace EE := Lib.hid (EE.out.keep hb); replace ct := EE.out.tab.cell; replace cm := EE.out.man.cell; clear hb)
              | (go_at_call 32; refine (HFi.out _ EE.out.below).mono ?_; rintro e w32 ⟨rfl, hb⟩; replace EE := Lib.hid (EE.out.keep hb); replace ct := EE.out.tab.cell; replace cm := EE.out.man.cell; clear hb)
              | (go_at_call 15; refine (knownLaw_c _).mono ?_; rintro e w15 ⟨rfl, hb⟩; have HB9 := Lib.hid (nextB EE.out.below hb); clear hb))
            exact bodyPost_ret (results_tmp rfl _ _ _) rfl ⟨rfl, HB9.out⟩
          · have HRw := Lib.hid (HRw0.out rfl)
            clear HRw0
            go_wp2_with (first
              | (go_at_call 40; refine (HSu.out _ EE.out.below).mono ?_; rintro e w40 ⟨rfl, hb⟩; replace EE := Lib.hid (EE.out.keep hb); replace ct := EE.out.tab.cell; replace cm := EE.out.man.cell; clear hb)
              | (go_at_call 43; refine (HWo.out _ EE.out.below).mono ?_; rintro e w43 ⟨rfl, hb⟩; replace EE := Lib.hid (EE.out.keep hb); replace ct := EE.out.tab.cell; replace cm := EE.out.man.cell; clear hb)
              | (go_at_call 45; refine (HCr.out _ EE.out.below).mono ?_; rintro e w45 ⟨rfl, hb⟩; replace EE := Lib.hid (EE.out.keep hb); replace ct := EE.out.tab.cell; replace cm := EE.out.man.cell; clear hb)
              | (go_at_call 32; refine (HFi.out _ EE.out.below).mono ?_; rintro e w32 ⟨rfl, hb⟩; replace EE := Lib.hid (EE.out.keep hb); replace ct := EE.out.tab.cell; replace cm := EE.out.man.cell; clear hb)
              | (go_at_call 48; refine (HRw.out _ EE.out.below).mono ?_; rintro e w48 ⟨rfl, hb⟩; replace EE := Lib.hid (EE.out.keep hb); replace ct := EE.out.tab.cell; replace cm := EE.out.man.cell; clear hb)
              | (go_at_call 15; refine (knownLaw_c _).mono ?_; rintro e w15 ⟨rfl, hb⟩; have HB9 := Lib.hid (nextB EE.out.below hb); clear hb))
            exact bodyPost_ret (results_tmp rfl _ _ _) rfl ⟨rfl, HB9.out⟩
          · have HRw := Lib.hid (HRw0.out rfl)
            clear HRw0
            go_wp2_with (first
              | (go_at_call 40; refine (HSu.out _ EE.out.below).mono ?_; rintro e w40 ⟨rfl, hb⟩; replace EE := Lib.hid (EE.out.keep hb); replace ct := EE.out.tab.cell; replace cm := EE.out.man.cell; clear hb)
              | (go_at_call 43; refine (HWo.out _ EE.out.below).mono ?_; rintro e w43 ⟨rfl, hb⟩; replace EE := Lib.hid (EE.out.keep hb); replace ct := EE.out.tab.cell; replace cm := EE.out.man.cell; clear hb)
              | (go_at_call 45; refine (HCr.out _ EE.out.below).mono ?_; rintro e w45 ⟨rfl, hb⟩; replace EE := Lib.hid (EE.out.keep hb); replace ct := EE.out.tab.cell; replace cm := EE.out.man.cell; clear hb)
              | (go_at_call 32; refine (HFi.out _ EE.out.below).mono ?_; rintro e w32 ⟨rfl, hb⟩; replace EE := Lib.hid (EE.out.keep hb); replace ct := EE.out.tab.cell; replace cm := EE.out.man.cell; clear hb)
              | (go_at_call 48; refine (HRw.out _ EE.out.below).mono ?_; rintro e w48 ⟨rfl, hb⟩; replace EE := Lib.hid (EE.out.keep hb); replace ct := EE.out.tab.cell; replace cm := EE.out.man.cell; clear hb)
              | (go_at_call 15; refine (knownLaw_c _).mono ?_; rintro e w15 ⟨rfl, hb⟩; have HB9 := Lib.hid (nextB EE.out.below hb); clear hb))
            exact bodyPost_ret (results_tmp rfl _ _ _) rfl ⟨rfl, HB9.out⟩
        · subst hG
          rcases hway with ⟨rfl, rfl, rfl, rfl, rfl, rfl⟩ | ⟨rfl, hr1, rfl, rfl, rfl, rfl, rfl⟩ | ⟨rfl, hr1, rfl, rfl, rfl, rfl, rfl⟩
          · clear HRw0
            go_wp2_with (first
              | (go_at_call 40; refine (HSu.out _ EE.out.below).mono ?_; rintro e w40 ⟨rfl, hb⟩; replace EE := Lib.hid (EE.out.keep hb); replace ct := EE.out.tab.cell; replace cm := EE.out.man.cell; clear hb)
              | (go_at_call 43; refine (HWo.out _ EE.out.below).mono ?_; rintro e w43 ⟨rfl, hb⟩; replace EE := Lib.hid (EE.out.keep hb); replace ct := EE.out.tab.cell; replace cm := EE.out.man.cell; clear hb)
              | (go_at_call 45; refine (HCr.out _ EE.out.below).mono ?_; rintro e w45 ⟨rfl, hb⟩; replace EE := Lib.hid (EE.out.keep hb); replace ct := EE.out.tab.cell; replace cm := EE.out.man.cell; clear hb)
              | (go_at_call 32; refine (HFi.out _ EE.out.below).mono ?_; rintro e w32 ⟨rfl, hb⟩; replace EE := Lib.hid (EE.out.keep hb); replace ct := EE.out.tab.cell; replace cm := EE.out.man.cell; clear hb)
              | (go_at_call 15; refine (knownLaw_c _).mono ?_; rintro e w15 ⟨rfl, hb⟩; have HB9 := Lib.hid (nextB EE.out.below hb); clear hb))
            exact bodyPost_ret (results_tmp rfl _ _ _) rfl ⟨rfl, HB9.out⟩
          · have HRw := Lib.hid (HRw0.out rfl)
            clear HRw0
            go_wp2_with (first
              | (go_at_call 40; refine (HSu.out _ EE.out.below).mono ?_; rintro e w40 ⟨rfl, hb⟩; replace EE := Lib.hid (EE.out.keep hb); replace ct := EE.out.tab.cell; replace cm := EE.out.man.cell; clear hb)
              | (go_at_call 43; refine (HWo.out _ EE.out.below).mono ?_; rintro e w43 ⟨rfl, hb⟩; replace EE := Lib.hid (EE.out.keep hb); replace ct := EE.out.tab.cell; replace cm := EE.out.man.cell; clear hb)
              | (go_at_call 45; refine (HCr.out _ EE.out.below).mono ?_; rintro e w45 ⟨rfl, hb⟩; replace EE := Lib.hid (EE.out.keep hb); replace ct := EE.out.tab.cell; replace cm := EE.out.man.cell; clear hb)
              | (go_at_call 32; refine (HFi.out _ EE.out.below).mono ?_; rintro e w32 ⟨rfl, hb⟩; replace EE := Lib.hid (EE.out.keep hb); replace ct := EE.out.tab.cell; replace cm := EE.out.man.cell; clear hb)
              | (go_at_call 48; refine (HRw.out _ EE.out.below).mono ?_; rintro e w48 ⟨rfl, hb⟩; replace EE := Lib.hid (EE.out.keep hb); replace ct := EE.out.tab.cell; replace cm := EE.out.man.cell; clear hb)
              | (go_at_call 15; refine (knownLaw_c _).mono ?_; rintro e w15 ⟨rfl, hb⟩; have HB9 := Lib.hid (nextB EE.out.below hb); clear hb))
            exact bodyPost_ret (results_tmp rfl _ _ _) rfl ⟨rfl, HB9.out⟩
          · have HRw := Lib.hid (HRw0.out rfl)
            clear HRw0
            go_wp2_with (first
              | (go_at_call 40; refine (HSu.out _ EE.out.below).mono ?_; rintro e w40 ⟨rfl, hb⟩; replace EE := Lib.hid (EE.out.keep hb); replace ct := EE.out.tab.cell; replace cm := EE.out.man.cell; clear hb)
              | (go_at_call 43; refine (HWo.out _ EE.out.below).mono ?_; rintro e w43 ⟨rfl, hb⟩; replace EE := Lib.hid (EE.out.keep hb); replace ct := EE.out.tab.cell; replace cm := EE.out.man.cell; clear hb)
              | (go_at_call 45; refine (HCr.out _ EE.out.below).mono ?_; rintro e w45 ⟨rfl, hb⟩; replace EE := Lib.hid (EE.out.keep hb); replace ct := EE.out.tab.cell; replace cm := EE.out.man.cell; clear hb)
              | (go_at_call 32; refine (HFi.out _ EE.out.below).mono ?_; rintro e w32 ⟨rfl, hb⟩; replace EE := Lib.hid (EE.out.keep hb); replace ct := EE.out.tab.cell; replace cm := EE.out.man.cell; clear hb)
              | (go_at_call 48; refine (HRw.out _ EE.out.below).mono ?_; rintro e w48 ⟨rfl, hb⟩; replace EE := Lib.hid (EE.out.keep hb); replace ct := EE.out.tab.cell; replace cm := EE.out.man.cell; clear hb)
              | (go_at_call 15; refine (knownLaw_c _).mono ?_; rintro e w15 ⟨rfl, hb⟩; have HB9 := Lib.hid (nextB EE.out.below hb); clear hb))
            exact bodyPost_ret (results_tmp rfl _ _ _) rfl ⟨rfl, HB9.out⟩
end Go.Proofs
namespace Go.Proofs
open Go.RowKit Go.Shelf Gas Go.ChangeShapes Go.WideShapes Go.Deep

instance : Inhabited Mn := ⟨⟨none, 0, 0, []⟩⟩
theorem sh_men : Shaped Tryz.prog 85 fun w cs => ∃ A n c xs, cs = [.slice A n c] ∧ SlOf Mn.cs 1 w A n xs ∧ n ≤ c ∧ (A = none → c = 0) ∧ ∀ y ∈ xs, SlOf prC 2 w y.rA y.rn y.rs :=
  shaped_sliceW (f := Mn.cs) (ok := fun w y => SlOf prC 2 w y.rA y.rn y.rs) Tryz.underlying85 (by kernel_rfl) (by omega) Mn.cs_len (shaped_weaken sh_man fun w cs ⟨A, n, c, xs, h1, h2, _⟩ => ⟨⟨A, n, c, xs⟩, h1, h2⟩)
section
variable {H : Type} {enc : TypeId × Value → H} {w : World} {base : Nat} {spare : Nat → Bool} {held : Bool} {r : Reach} {b0 : Nat} {v : Value} {d : DataW H} {p : List MemPlace}
set_option maxRecDepth 100000 in
theorem arg_men (u : Value.okWide Tryz.prog w r b0 85 v) (h : DataW.Trod enc Tryz.prog w base spare held 85 v d p) : ∃ A n c xs, v = .slice A n c ∧ SlOf Mn.cs 1 w A n xs ∧ n ≤ c ∧ (∀ y ∈ xs, SlOf prC 2 w y.rA y.rn y.rs) ∧ (A = none → c = 0) := by
  obtain ⟨A, n, c, xs, e, h1, h2, h4, h5⟩ := open_shaped_slice sh_men Tryz.underlying85 u h
  simp only [List.cons.injEq, and_true] at e
  exact ⟨A, n, c, xs, e, h1, h2, h5, h4⟩
end
end Go.Proofs
namespace Go.Proofs.YtahochgbkhpefaaGreatDoor.gasSures
open Go.ChangeShapes Go.WideShapes Go.ChangeAt Go.RowKit Go.Proofs

theorem own : ownKnob Tryz.prog.godebug = none := by kernel_rfl
theorem laidOut : laidOutB Tryz.prog = true := by kernel_rfl
theorem door_met (os : Os) (args : Array Value) : laidMetH Tryz.prog Rows.gasSuresRow.laid ((World.doorLaid Tryz.prog 400 os).forCall (fun _ _ => 0) ⟨#[], args, []⟩).memory :=
  laidMetH_of_parts3 (fuel := 8) (laidMet_of_run' 8 (by kernel_rfl) (by kernel_rfl)) (by kernel_rfl) (by kernel_rfl)

set_option maxRecDepth 100000 in
theorem lifted (os : Os) (started : os.Started) (H : Type) (enc : TypeId × Value → H) :
    ReturnsInHanded {} Tryz.checked os 11 .any (fun w args => (Rows.gasSuresSpec.pre enc Tryz.prog Tryz.f11 [] false w args ∧ laidMetH Tryz.prog Rows.gasSuresRow.laid w) ∧ sizedMet enc Tryz.prog Tryz.f11 (OpenSpec.ofChange Rows.gasSuresSpec) false w args)
      (Rows.gasSuresSpec.post enc Tryz.prog Tryz.f11 false true false false) := by
  refine returnsInHanded_of_change_and (C := Tryz.checked) (X := fun w _ => laidMetH Tryz.prog Rows.gasSuresRow.laid w) (fun _ _ _ hh h => h.of_heap hh) own started (by kernel_rfl) Tryz.func11
    (ChangeSpec.witness_shaped (enc := enc) (C := Tryz.checked) (os := os) (X := fun w _ => laidMetH Tryz.prog Rows.gasSuresRow.laid w) false (World.doorLaid Tryz.prog 400 os) #[.agg #[.slice none 0 0, .slice none 0 0], .slice none 0 0, .slice none 0 0] 8 rfl (World.shaped_of_RefB (by kernel_rfl) (by kernel_rfl)) (by kernel_rfl) (by kernel_rfl) (by kernel_rfl) (door_met os _)) ?_
  intro W base args ds gs before hval0 hW _ _ hL _
  have hval : ∀ (j : Nat) t v, Tryz.f11.params[j]? = some t → args[j]? = some v → Value.okWide Tryz.prog W .any base t v := hval0
  have hW' := hW
  obtain ⟨p, q, hA0, hV, rfl, hfz, hnd⟩ := hW
  have hA : DataW.TrodAll enc Tryz.prog W 0 (fun _ => true) true Tryz.f11.params.toList args.toList ds p := hA0
  rw [Tryz.params11] at hA hval
  obtain ⟨v0, vs0, d0, ds0, p0, q0, hargs, rfl, rfl, h0, r0⟩ := trodAll_cons hA
  obtain ⟨v1, vs1, d1, ds1, p1, q1, rfl, rfl, rfl, h1, r1⟩ := trodAll_cons r0
  obtain ⟨v2, vs2, d2, ds2, p2, q2, rfl, rfl, rfl, h2, r2⟩ := trodAll_cons r1
  obtain ⟨rfl, rfl, rfl⟩ := trodAll_nil r2
  obtain rfl : args = #[v0, v1, v2] := by cases args; simp_all
  obtain ⟨rfl, rfl⟩ := trodVars_none hV
  have k0 := h0
  have lt0 : ∀ x ∈ p0, x.block < W.heap.size := by obtain ⟨m, hm⟩ := k0; exact DataW.trod_lt m _ _ _ hm
  have u0 := hval 0 50 v0 rfl rfl
  obtain ⟨pA, pn, pc, ps, sA, sn, sc, ss, rfl, hP, hS⟩ := arg_table u0 h0
  have k1 := h1
  have lt1 : ∀ x ∈ p1, x.block < W.heap.size := by obtain ⟨m, hm⟩ := k1; exact DataW.trod_lt m _ _ _ hm
  have u1 := hval 1 85 v1 rfl rfl
  obtain ⟨A1, n1, c1, l1, rfl, hd1, hc1, hm1, hA1⟩ := arg_men u1 h1
  have k2 := h2
  have lt2 : ∀ x ∈ p2, x.block < W.heap.size := by obtain ⟨m, hm⟩ := k2; exact DataW.trod_lt m _ _ _ hm
  have u2 := hval 2 54 v2 rfl rfl
  obtain ⟨A2, n2, c2, l2, rfl, hd2, hc2, hm2, hA2⟩ := arg_dive u2 h2
  clear hA0 hval0
  simp only [List.append_nil] at hW'
  refine (gasSures_walk ⟨pA, sA, none, pn, pc, sn, sc, 0, 0, ps, ss, []⟩ (Nat.zero_le _) hP.1 A1 A2 n1 c1 n2 c2 l1 l2 hA2 W hP hS hd1 hm1 hd2).mono fun e W' ⟨he, bel⟩ => ?_
  subst he
  exact ⟨_, rfl, _, _, _, [], _, [], hW', trodAll_mk1 (shut_bool Tryz.underlying4 _), (trodAll_cons_mk (Below.trod laidOut (by kernel_rfl) (of_decide_eq_true (by kernel_rfl)) k0 bel lt0) (trodAll_cons_mk (Below.trod laidOut (by kernel_rfl) (of_decide_eq_true (by kernel_rfl)) k1 bel lt1) (trodAll_cons_mk (Below.trod laidOut (by kernel_rfl) (of_decide_eq_true (by kernel_rfl)) k2 bel lt2) trodAll_mk0))), rfl, bel.frame _, fun h => by cases h⟩

theorem row_holds : Rows.GasSuresSaid :=
  OpenClaim.holds_of_wide 11 Tryz.f11 rfl rfl rfl rfl rfl rfl rfl ⟨rfl, rfl, rfl, rfl, rfl⟩ rfl rfl rfl rfl rfl (by kernel_rfl) Tryz.func11 (by kernel_rfl)
    (of_decide_eq_true (by kernel_rfl)) (by unfold Func.isWrapper; first | (rw [if_pos (by decide +kernel)]; kernel_rfl) | (rw [if_neg (by decide +kernel)]; exact ⟨rfl, rfl⟩))
    (fun os started H enc _ => lifted os started H enc)

theorem gasSures_holds : Rows.GasSuresCardSaid :=
  Claim7.holds_tied_plain_at .later [] [.data, .data, .data] true (true, "7950fa0371113510b48b1005210e74e0fffa460a27dcdf5d658d223fe2172657") true
    row_holds (fun _ h => by cases h) (by kernel_rfl) (fun _ h => by cases h) gasSures_row_tie rfl ⟨rfl, rfl⟩ (by kernel_rfl) rfl
    (fun f fn hf hfn => by
      obtain rfl : f = 11 := Option.some.inj ((show Tryz.prog.funcNamed "bathyal/bathyallaw02.GasSures" = some 11 by kernel_rfl).symm.trans hf) |>.symm
      obtain rfl : fn = Tryz.f11 := (Option.some.inj (Tryz.func11.symm.trans hfn)).symm
      exact ⟨by kernel_rfl, fun j t ht => by
        rw [Tryz.params11] at ht
        have hm : t ∈ [50, 85, 54] := by simpa using Array.mem_of_getElem? ht
        have hall : ([50, 85, 54].all fun u => !Tryz.prog.wantsStandIn u) = true := by kernel_rfl
        exact (show Tryz.prog.wantsStandIn t = false by simpa using List.all_eq_true.1 hall t hm)⟩)
    (by kernel_rfl)
#print axioms gasSures_holds
end Go.Proofs.YtahochgbkhpefaaGreatDoor.gasSures
