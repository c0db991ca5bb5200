/-
  Contracts of Crew and of the specification's Crew hold at every crew of at most eight men of moderate size, and Worst is what the specification says.
-/
import Derived.Test.YtahochgbkhpefaaGreatDoorP15
import Derived.Test.YtahochgbkhpefaaGreatDoorP7
import Derived.Test.YtahochgbkhpefaaGreatDoorP13
import Derived.Test.YtahochgbkhpefaaGreatDoorP11
import Derived.Test.YtahochgbkhpefaaGreatDoorP16
namespace Go.Proofs
open Go.RowKit Gas

theorem searchN_some (p : Int → Int → Bool) (ds : List Int) (hs : ds.Pairwise (· < ·)) : ∀ (k : Nat) (m d n : Int), searchN p ds k m = some (d, n) → d ∈ ds ∧ m ≤ n ∧ n < m + k ∧ p d n = true ∧ ∀ d' n' : Int, d' ∈ ds → m ≤ n' → p d' n' = true → n < n' ∨ n = n' ∧ d ≤ d'
  | 0, m, d, n, h => by cases h
  | k + 1, m, d, n, h => by
    unfold searchN at h
    split at h
    · rename_i x hf
      cases h
      obtain ⟨l1, l2, e, h1, h2⟩ := find_split hf
      subst e
      refine ⟨by simp, by omega, by omega, h1, fun d' n' hd hn hp => ?_⟩
      rcases Int.lt_or_eq_of_le hn with hlt | rfl
      · exact .inl hlt
      · refine .inr ⟨rfl, ?_⟩
        rcases List.mem_append.1 hd with hd | hd
        · rw [h2 d' hd] at hp; cases hp
        · rcases List.mem_cons.1 hd with rfl | hd
          · omega
          · have := (List.pairwise_cons.1 (List.pairwise_append.1 hs).2.1).1 d' hd
            omega
    · rename_i hf
      obtain ⟨a1, a2, a3, a4, a5⟩ := searchN_some p ds hs k (m + 1) d n h
      refine ⟨a1, by omega, by omega, a4, fun d' n' hd hn hp => ?_⟩
      rcases Int.lt_or_eq_of_le hn with hlt | rfl
      · exact a5 d' n' hd (by omega) hp
      · rw [find_no hf d' hd] at hp; cases hp
theorem searchN_none (p : Int → Int → Bool) (ds : List Int) : ∀ (k : Nat) (m : Int), searchN p ds k m = none → ∀ d' n' : Int, d' ∈ ds → m ≤ n' → n' < m + k → p d' n' = false
  | 0, m, h, d', n', hd, h1, h2 => by omega
  | k + 1, m, h, d', n', hd, h1, h2 => by
    unfold searchN at h
    split at h
    · cases h
    · rename_i hf
      rcases Int.lt_or_eq_of_le h1 with hlt | rfl
      · exact searchN_none p ds k (m + 1) h d' n' hd (by omega) (by omega)
      · exact find_no hf d' hd
theorem firstFrom_some (p : Int → Bool) : ∀ (n : Nat) (d m : Int), firstFrom p n d = some m → d ≤ m ∧ m < d + n ∧ p m = true ∧ ∀ x, d ≤ x → p x = true → m ≤ x
  | 0, d, m, h => by cases h
  | n + 1, d, m, h => by
    unfold firstFrom at h
    split at h
    · rename_i hp
      cases h
      exact ⟨by omega, by omega, hp, fun x hx _ => hx⟩
    · rename_i hp
      obtain ⟨a1, a2, a3, a4⟩ := firstFrom_some p n (d + 1) m h
      refine ⟨by omega, by omega, a3, fun x hx hpx => ?_⟩
      rcases Int.lt_or_eq_of_le hx with hlt | rfl
      · exact a4 x (by omega) hpx
      · exact absurd hpx hp
theorem firstFrom_none (p : Int → Bool) : ∀ (n : Nat) (d : Int), firstFrom p n d = none → ∀ x, d ≤ x → x < d + n → p x = false
  | 0, d, h, x, h1, h2 => by omega
  | n + 1, d, h, x, h1, h2 => by
    unfold firstFrom at h
    split at h
    · cases h
    · rename_i hp
      rcases Int.lt_or_eq_of_le h1 with hlt | rfl
      · exact firstFrom_none p n (d + 1) h x (by omega) (by omega)
      · simpa using hp
theorem searchD_some (p : Int → Int → Bool) (j : Nat) : ∀ (k : Nat) (d0 d n : Int), searchD p j k d0 = some (d, n) → d0 ≤ d ∧ d < d0 + k ∧ 1 ≤ n ∧ n < 1 + j ∧ p d n = true ∧ ∀ d' n' : Int, d0 ≤ d' → 1 ≤ n' → n' < 1 + j → p d' n' = true → d < d' ∨ d = d' ∧ n ≤ n'
  | 0, d0, d, n, h => by cases h
  | k + 1, d0, d, n, h => by
    unfold searchD at h
    split at h
    · rename_i m hf
      cases h
      obtain ⟨a1, a2, a3, a4⟩ := firstFrom_some _ _ _ _ hf
      refine ⟨by omega, by omega, a1, a2, a3, fun d' n' hd h1 h2 hp => ?_⟩
      rcases Int.lt_or_eq_of_le hd with hlt | rfl
      · exact .inl hlt
      · exact .inr ⟨rfl, a4 n' h1 hp⟩
    · rename_i hf
      obtain ⟨a1, a2, a3, a4, a5, a6⟩ := searchD_some p j k (d0 + 1) d n h
      refine ⟨by omega, by omega, a3, a4, a5, fun d' n' hd h1 h2 hp => ?_⟩
      rcases Int.lt_or_eq_of_le hd with hlt | rfl
      · exact a6 d' n' (by omega) h1 h2 hp
      · rw [firstFrom_none _ _ _ hf n' h1 h2] at hp; cases hp
theorem searchD_none (p : Int → Int → Bool) (j : Nat) : ∀ (k : Nat) (d0 : Int), searchD p j k d0 = none → ∀ d' n' : Int, d0 ≤ d' → d' < d0 + k → 1 ≤ n' → n' < 1 + j → p d' n' = false
  | 0, d0, h, d', n', h1, h2, _, _ => by omega
  | k + 1, d0, h, d', n', h1, h2, h3, h4 => by
    unfold searchD at h
    split at h
    · cases h
    · rename_i hf
      rcases Int.lt_or_eq_of_le h1 with hlt | rfl
      · exact searchD_none p j k (d0 + 1) h d' n' (by omega) (by omega) h3 h4
      · exact firstFrom_none _ _ _ hf n' h3 h4
end Go.Proofs
namespace Go.Proofs
open Go.RowKit Go.Shelf Gas
attribute [local go_sem ↓] Go.wp_at_zero Go.wp_at_succ

def suitB (t : Tm) (m : Mn) : Bool := decide (m.rn = t.pn) && m.rs.all rateB
theorem suits_c2 (t : Tm) (m : Mn) (h : m.rn ≤ 1000000) (w : World) (hs : SlOf prC 2 w m.rA m.rn m.rs) : Calls Tryz.prog 94 #[t.tab, .agg #[.slice m.rA m.rn m.rc]] w fun e w2 => e = .returned (.bool (suitB t m)) ∧ Below w.heap.size w w2 :=
  suits_c t.pA t.sA m.rA t.pn t.pc t.sn t.sc m.rn m.rc m.rs h w hs
/-- What Crew returns where table and dive are as defined. -/
def IsCrew (w0 : World) (t : Tm) (dive : List St) (ms : List Mn) (n : Nat) (e : Ending) (w' : World) : Prop :=
  if ms.all (suitB t) = true then IsInts0 w0 (crewL t dive ms n) e w' else (e = .returned (.tuple #[.slice none 0 0, .int .i64 2]) ∧ Below w0.heap.size w0 w')

set_option maxHeartbeats 4000000 in
theorem Crew_t (t : Tm) (ht : t.Small) (htb : tableB t.ps t.ss = true) (A A2 : Option Addr) (n c n2 c2 : Nat) (ms : List Mn) (dive : List St) (hn : n ≤ 6) (hdv : diveB dive 0 = true) (hn2 : n2 ≤ 100000) (hms : ∀ m ∈ ms, m.rn ≤ 1000000)
    (w : World) (hp : SlOf prC 2 w t.pA t.pn t.ps) (hs : SlOf inC 1 w t.sA t.sn t.ss) (hm : SlOf Mn.cs 1 w A n ms) (hr : ∀ m ∈ ms, SlOf prC 2 w m.rA m.rn m.rs) (hd : SlOf St.cs 4 w A2 n2 dive) :
    Calls Tryz.prog 45 #[t.tab, .slice A n c, .slice A2 n2 c2] w (IsCrew w t dive ms n) := by
  have hps : t.ps.all partB = true := by
    simp only [tableB, Bool.and_eq_true] at htb; exact htb.1.2
  have hok : ∀ m ∈ ms, suitB t m = true → (m.tm t).Ok := fun m hm' hz => by
    simp only [suitB, Bool.and_eq_true, decide_eq_true_eq] at hz
    exact ⟨⟨ht.p, ht.s, hms m hm'⟩, hz.1, hz.2, hps⟩
  have hin : ∀ m ∈ ms, (m.tm t).In w := fun m hm' => ⟨hp, hs, hr m hm'⟩
  have hsd := diveB_ok hdv
  have HCk := Lib.hid fun (w' : World) (hb : Below w.heap.size w w') => Check_c t.pA t.sA t.pn t.pc t.sn t.sc t.ps t.ss (by have := ht.p; omega) (by have := ht.s; omega) w' (hp.keep hb) (hs.keep hb)
  have HDv := Lib.hid fun (w' : World) (hb : Below w.heap.size w w') => diveable_c A2 n2 c2 dive 0 (by omega) (by omega) w' (hd.keep hb)
  rw [htb, errI_true] at HCk
  rw [hdv] at HDv
  have HSu := Lib.hid fun (w' : World) (hb : Below w.heap.size w w') (m : Mn) (hm' : m ∈ ms) => (show Calls Tryz.prog 94 #[t.tab, .agg #[.slice m.rA m.rn m.rc]] w' fun e w2 => e = .returned (.bool (suitB t m)) ∧ Below w'.heap.size w' w2 from suits_c2 t m (hms m hm') w' ((hr m hm').keep hb))
  have HBg := Lib.hid fun (w' : World) (hb : Below w.heap.size w w') (m : Mn) (hm' : m ∈ ms) (hz : suitB t m = true) => begin_c (m.tm t) (hok m hm' hz) w' ((hin m hm').keep hb)
  have HFo := Lib.hid fun (w' : World) (hb : Below w.heap.size w w') (m : Mn) (hm' : m ∈ ms) (hz : suitB t m = true) (bm : Nat) (hmm : MapAt w' bm (heldF m.rs h0)) => follow_c (m.tm t) h0 (h0_ok (hok m hm' hz)) bm true A2 n2 c2 dive (by omega) hsd w' ((hin m hm').keep hb) hmm (hd.keep hb)
  have HSa := Lib.hid fun (w' : World) (hb : Below w.heap.size w w') (m : Mn) (hm' : m ∈ ms) (hz : suitB t m = true) (bm : Nat) (hmm : MapAt w' bm (heldF m.rs (folS t.ps m.rs (h0, true) dive).1)) =>
    (show Calls Tryz.prog 91 #[FolV (m.tm t) bm (folS t.ps m.rs (h0, true) dive).2] w' fun e w2 => e = .returned (.bool (crewB t dive m)) ∧ Below w'.heap.size w' w2 from safe_c (m.tm t) _ (FolOk.folS dive (h0, true) (h0_ok (hok m hm' hz)) hsd) bm (folS t.ps m.rs (h0, true) dive).2 w' ((hin m hm').keep hb) hmm)
  have HM := Lib.hid hm; have HN := Lib.hid hm.1
  clear hp hs hr hd hok hin hsd hms hps htb hdv hm
  obtain ⟨pA, sA, rA, pn, pc, sn, sc, rn, rc, ps, ss, rs⟩ := t
  simp only [Tm.tab, Mn.tm] at *
  have T0 := Lib.hid (Has.new w 50 #[.slice pA pn pc, .slice sA sn sc])
  have B0 := Lib.hid (newB (Below.refl w.heap.size w) (.cells #[.slice pA pn pc, .slice sA sn sc] 50))
  go_enter Tryz.func45, Tryz.ntmps45
  go_wp2_with (first
    | (go_at_call 28; refine (HCk.out _ B0.out).mono ?_; rintro e w1 ⟨rfl, hb1⟩; have HB1 := Lib.hid (nextB B0.out hb1); have T1 := Lib.hid (T0.out.after hb1); clear hb1)
    | (go_at_call 93; refine (HDv.out _ HB1.out).mono ?_; rintro e w2 ⟨rfl, hb2⟩; have HB2 := Lib.hid (nextB HB1.out hb2); have T2 := Lib.hid (T1.out.after hb2); clear hb2))
  have HO0 := Lib.hid (show w2.ownsRow w.heap.size 3 1 (.slice none 0 0) (crewL ⟨pA, sA, rA, pn, pc, sn, sc, rn, rc, ps, ss, rs⟩ dive ms 0).length (flat inC (crewL ⟨pA, sA, rA, pn, pc, sn, sc, rn, rc, ps, ss, rs⟩ dive ms 0)) from World.ownsRow_nil _ _ _ _)
  go_loopw [8, 26] (fun v i wr => ∃ k : Nat, k ≤ n ∧ i = .int .i64 k ∧ wr.ownsRow w.heap.size 3 1 v (crewL ⟨pA, sA, rA, pn, pc, sn, sc, rn, rc, ps, ss, rs⟩ dive ms k).length (flat inC (crewL ⟨pA, sA, rA, pn, pc, sn, sc, rn, rc, ps, ss, rs⟩ dive ms k)) ∧ Below w.heap.size w wr ∧ Has wr w.heap.size 50 #[.slice pA pn pc, .slice sA sn sc] ∧ ∀ (j : Nat) m, j < k → ms[j]? = some m → suitB ⟨pA, sA, rA, pn, pc, sn, sc, rn, rc, ps, ss, rs⟩ m = true) (fun _ i _ => n - (intOf i).toNat)
  case atStart => exact ⟨0, by omega, rfl, HO0.out, HB2.out, T2.out, fun j m hj => absurd hj (by omega)⟩
  case round =>
    obtain ⟨k, hk, rfl, hO, hB, hT, hQ⟩ := hrel
    have HQ := Lib.hid hQ
    clear hQ
    have HO := Lib.hid hO; have HB := Lib.hid hB; have HT := Lib.hid hT
    clear hO hB hT
    by_cases hkn : k < n
    · have hkl : k < ms.length := by rw [HN.out]; exact hkn
      obtain ⟨b, o, he⟩ := HM.out.addr (by omega)
      have hx := List.getElem?_eq_getElem hkl
      have hmem := List.getElem_mem hkl
      obtain ⟨m, hmm⟩ : ∃ m, m = ms[k] := ⟨_, rfl⟩
      rw [← hmm] at hx hmem
      have hR0 := (HM.out.keep HB.out)
      subst he
      have hR1 := (hR0.range Mn.cs_len hx)
      have HCL := Lib.hid (show crewL ⟨pA, sA, rA, pn, pc, sn, sc, rn, rc, ps, ss, rs⟩ dive ms (k + 1) = crewL ⟨pA, sA, rA, pn, pc, sn, sc, rn, rc, ps, ss, rs⟩ dive ms k ++ (if crewB ⟨pA, sA, rA, pn, pc, sn, sc, rn, rc, ps, ss, rs⟩ dive m then [(k : Int)] else []) by simp only [crewL, hx])
      have hlk := Nat.le_trans (crewL_len ⟨pA, sA, rA, pn, pc, sn, sc, rn, rc, ps, ss, rs⟩ dive ms k) (show k ≤ 1000000 by omega)
      have K1 := Lib.hid fun (W : World) (hb : Below w.heap.size w W) => HSu.out W hb m hmem
      have HX := Lib.hid hx
      have HMem := Lib.hid hmem
      obtain ⟨sb, hsb⟩ : ∃ sb, suitB ⟨pA, sA, rA, pn, pc, sn, sc, rn, rc, ps, ss, rs⟩ m = sb := ⟨_, rfl⟩
      have HSB := Lib.hid hsb
      rw [hsb] at K1
      have K2 := Lib.hid fun (hz : sb = true) (W : World) (hb : Below w.heap.size w W) => HBg.out W hb m hmem (hsb.trans hz)
      have K3 := Lib.hid fun (hz : sb = true) (W : World) (hb : Below w.heap.size w W) => HFo.out W hb m hmem (hsb.trans hz)
      have K4 := Lib.hid fun (hz : sb = true) (W : World) (hb : Below w.heap.size w W) => HSa.out W hb m hmem (hsb.trans hz)
      clear hx hmm hR0 hmem hsb
      generalize crewB ⟨pA, sA, rA, pn, pc, sn, sc, rn, rc, ps, ss, rs⟩ dive m = cb at *
      obtain ⟨mA, mn, mc, mr⟩ := m
      have hR := Lib.hid (show wr.rangeAt b (o + k) [.slice mA mn mc] from by simpa [Mn.cs] using hR1)
      clear hR1
      simp only [Tm.man] at K1 K2
      have N := Lib.hid (Has.new wr 53 #[.slice mA mn mc])
      have B1 := Lib.hid (newB HB.out (.cells #[.slice mA mn mc] 53))
      have T1 := Lib.hid (HT.out.alloc (.cells #[.slice mA mn mc] 53))
      have HO1 := Lib.hid (HO.out.alloc (.cells #[.slice mA mn mc] 53))
      have hgk : wr.cell? ⟨b, o + k, none⟩ = some (.slice mA mn mc) := hR.out 0 _ rfl
      have ct0 := HT.out.cell
      have htl := HT.out.lt
      cases sb
      · go_wp2_with (go_at_call 94; refine (K1.out _ B1.out).mono ?_; rintro e w3 ⟨rfl, hb⟩; have B3 := Lib.hid (nextB B1.out hb); clear hb)
        exact bodyPost_ret (results_tmp2 rfl _ _ _) rfl (by
          unfold IsCrew
          rw [if_neg (fun h => by
            have := List.all_eq_true.1 h _ HMem.out
            rw [HSB.out] at this; cases this)]
          exact ⟨rfl, B3.out⟩)
      replace K2 := Lib.hid (K2.out rfl)
      replace K3 := Lib.hid (K3.out rfl)
      replace K4 := Lib.hid (K4.out rfl)
      have HQ2 := Lib.hid fun (j : Nat) (m' : Mn) (hj : j < k + 1) (hm' : ms[j]? = some m') => (show suitB ⟨pA, sA, rA, pn, pc, sn, sc, rn, rc, ps, ss, rs⟩ m' = true by
        rcases Nat.lt_succ_iff_lt_or_eq.1 hj with h | h
        · exact HQ.out j m' h hm'
        · subst h
          rw [HX.out] at hm'
          cases hm'
          exact HSB.out)
      cases cb
      all_goals
        go_wp2_with (first
          | (go_at_call 94; refine (K1.out _ B1.out).mono ?_; rintro e w3 ⟨rfl, hb⟩; have B3 := Lib.hid (nextB B1.out hb); have ct := (T1.out.after hb).cell; have cn := (N.out.after hb).cell; have T3 := Lib.hid (T1.out.after hb); have O3 := Lib.hid (owns_keep HO1.out hb); clear hb)
          | (go_at_call 83; refine (K2.out _ B3.out).mono ?_; rintro e w4 ⟨bm, rfl, hM, hb⟩; have B4 := Lib.hid (nextB B3.out hb); have M4 := Lib.hid hM; have T4 := Lib.hid (T3.out.after hb); have O4 := Lib.hid (owns_keep O3.out hb); clear hb hM)
          | (go_at_call 90; refine (K3.out _ B4.out bm M4.out).mono ?_; rintro e w5 ⟨bm5, rfl, hM, hb⟩; have B5 := Lib.hid (nextB B4.out hb); have M5 := Lib.hid hM; have T5 := Lib.hid (T4.out.after hb); have O5 := Lib.hid (owns_keep O4.out hb); clear hb hM)
          | (go_at_call 91; refine (K4.out _ B5.out bm5 M5.out).mono ?_; rintro e w6 ⟨rfl, hb⟩; have B6 := Lib.hid (nextB B5.out hb); have T6 := Lib.hid (T5.out.after hb); have O6 := Lib.hid (owns_keep O5.out hb); clear hb)
          | (at_builtin; refine wpList_app37 rfl _ _ rfl w.heap.size u8 _ rfl (O6.out.alloc _) hlk w6.heap.size (k : Int) rfl (Has.new w6 3 _) (newB B6.out _).size ?_; intro v7 w7 ho7 hb7 hsp; have O7 := Lib.hid ho7; have B7 := Lib.hid ((newB B6.out (.cells #[.int .i64 k] 3)).trans hb7); have T7 := Lib.hid (hsp.has (T6.out.alloc _) (by decide)); clear ho7 hb7 hsp))
        go_roundw
        case rel => first
          | exact ⟨k + 1, by omega, by go_num, by rw [HCL.out]; exact O7.out, B7.out, T7.out, HQ2.out⟩
          | exact ⟨k + 1, by omega, by go_num, by rw [HCL.out, if_neg (by decide), List.append_nil]; exact O6.out, B6.out, T6.out, HQ2.out⟩
        case measure => simp [intOf]; omega
    · go_wp2
      have hke : k = n := by omega
      subst hke
      exact bodyPost_ret (results_tmp2 rfl _ _ _) rfl (by
        unfold IsCrew
        rw [if_pos (List.all_eq_true.2 fun m hm => by
          obtain ⟨j, hj, e⟩ := List.getElem_of_mem hm
          exact HQ.out j m (by have := HN.out; omega) (by rw [List.getElem?_eq_getElem hj, e]))]
        exact ⟨u8, rfl, HO.out, HB.out⟩)

set_option maxHeartbeats 1000000 in
theorem Crew_e (t : Tm) (ht : t.Small) (A A2 : Option Addr) (n c n2 c2 : Nat) (dive : List St) (hn2 : n2 ≤ 100000) (h : tableB t.ps t.ss = false ∨ 6 < n ∨ diveB dive 0 = false) (w : World) (hp : SlOf prC 2 w t.pA t.pn t.ps) (hs : SlOf inC 1 w t.sA t.sn t.ss) (hd : SlOf St.cs 4 w A2 n2 dive) :
    Calls Tryz.prog 45 #[t.tab, .slice A n c, .slice A2 n2 c2] w fun e w' => e = .returned (.tuple #[.slice none 0 0, .int .i64 2]) ∧ Below w.heap.size w w' := by
  have HCk := Lib.hid fun (w' : World) (hb : Below w.heap.size w w') => Check_c t.pA t.sA t.pn t.pc t.sn t.sc t.ps t.ss (by have := ht.p; omega) (by have := ht.s; omega) w' (hp.keep hb) (hs.keep hb)
  have HDv := Lib.hid fun (w' : World) (hb : Below w.heap.size w w') => diveable_c A2 n2 c2 dive 0 (by omega) (by omega) w' (hd.keep hb)
  clear hp hs hd ht
  obtain ⟨pA, sA, rA, pn, pc, sn, sc, rn, rc, ps, ss, rs⟩ := t
  simp only [Tm.tab] at *
  have T0 := Lib.hid (Has.new w 50 #[.slice pA pn pc, .slice sA sn sc])
  have B0 := Lib.hid (newB (Below.refl w.heap.size w) (.cells #[.slice pA pn pc, .slice sA sn sc] 50))
  cases htb : tableB ps ss
  · rw [htb, show errI false = 2 from rfl] at HCk
    clear htb h HDv
    go_enter Tryz.func45, Tryz.ntmps45
    go_wp2_with (go_at_call 28; refine (HCk.out _ B0.out).mono ?_; rintro e w1 ⟨rfl, hb1⟩; have HB1 := Lib.hid (nextB B0.out hb1); clear hb1)
    exact bodyPost_ret (results_tmp2 rfl _ _ _) rfl ⟨rfl, HB1.out⟩
  · rw [htb, errI_true] at HCk
    by_cases hn : 6 < n
    · clear htb h HDv
      go_enter Tryz.func45, Tryz.ntmps45
      go_wp2_with (go_at_call 28; refine (HCk.out _ B0.out).mono ?_; rintro e w1 ⟨rfl, hb1⟩; have HB1 := Lib.hid (nextB B0.out hb1); clear hb1)
      exact bodyPost_ret (results_tmp2 rfl _ _ _) rfl ⟨rfl, HB1.out⟩
    · have hdv : diveB dive 0 = false := by
        rcases h with h | h | h
        · rw [htb] at h; cases h
        · exact absurd h hn
        · exact h
      rw [hdv] at HDv
      clear htb h hdv
      go_enter Tryz.func45, Tryz.ntmps45
      go_wp2_with (first
        | (go_at_call 28; refine (HCk.out _ B0.out).mono ?_; rintro e w1 ⟨rfl, hb1⟩; have HB1 := Lib.hid (nextB B0.out hb1); have T1 := Lib.hid (T0.out.after hb1); clear hb1)
        | (go_at_call 93; refine (HDv.out _ HB1.out).mono ?_; rintro e w2 ⟨rfl, hb2⟩; have HB2 := Lib.hid (nextB HB1.out hb2); clear hb2))
      exact bodyPost_ret (results_tmp2 rfl _ _ _) rfl ⟨rfl, HB2.out⟩
end Go.Proofs
namespace Go.Proofs
open Go.RowKit Go.Shelf Gas
attribute [local go_sem ↓] Go.wp_at_zero Go.wp_at_succ

section
variable {P : Program} {w0 : World} {ops : Array Oper} {i : Nat} {S : List Spec} {o : Oper} {r : List Oper} {a : Act} {H : Hyps} {K : Act → Hyps → Prop}
theorem OblS.mid (hg : Region.wanted o (yielded ops a.tmps) = true) (ty : TypeId) (x : Operand) (ho : o.op = .load ty x) (b off : Nat) (hx : a.eval x = .pointer (some ⟨b, off, none⟩)) (cs : List Value) (d : TypeDesc)
    (hc : ∀ w, Below w0.heap.size w0 w → w.rangeAt b off cs) (hu : P.underlying ty = some d) (hd : d.isRow = true) (hi : (P.info? ty).map (·.size) = some cs.length)
    (h : OblS P ops w0 (i + 1) S r (a.put o.dst (.agg cs.toArray)) H K) : OblS P ops w0 i (.v (.agg cs.toArray) :: S) (o :: r) a H K :=
  OblS.val hg (fun w hB _ => by
    unfold execOp
    simp only [ho, hx, Instr.loadAt, Instr.sureAddr, Sem.run_bind, Sem.run_pure, Result.andThen_ok, run_loadVar_mid w b off ty cs d (hc w hB) hu hd hi]) h
end
theorem crewB_kept (t : Tm) (dive : List St) (m : Mn) : crewB t dive m = keptF (m.tm t) (h0, true) dive := rfl

set_option maxHeartbeats 2000000 in
set_option maxRecDepth 50000 in
theorem refCrew_c (t : Tm) (ht : t.Small) (htp : t.ps.all partB = true) (hpl : t.ps.length = t.pn) (A A2 : Option Addr) (n c n2 c2 : Nat) (ms : List Mn) (dive : List St) (hn : n ≤ 1000) (hn2 : n2 ≤ 100000) (hds : ∀ s ∈ dive, SOk s) (hms : ∀ m ∈ ms, suitB t m = true ∧ m.rn ≤ 100)
    (w : World) (hp : SlOf prC 2 w t.pA t.pn t.ps) (hs : SlOf inC 1 w t.sA t.sn t.ss) (hm : SlOf Mn.cs 1 w A n ms) (hr : ∀ m ∈ ms, SlOf prC 2 w m.rA m.rn m.rs) (hd : SlOf St.cs 4 w A2 n2 dive) :
    Calls Tryz.prog 47 #[t.tab, .slice A n c, .slice A2 n2 c2] w fun e w' => ∃ v, e = .returned v ∧ w'.ownsRow w.heap.size 3 1 v (crewL t dive ms n).length (flat inC (crewL t dive ms n)) ∧ Below w.heap.size w w' := by
  have hok : ∀ m ∈ ms, (m.tm t).Ok := fun m hm' => by
    have hz := (hms m hm').1
    simp only [suitB, Bool.and_eq_true, decide_eq_true_eq] at hz
    exact ⟨⟨ht.p, ht.s, by show m.rn ≤ 1000000; have := (hms m hm').2; omega⟩, hz.1, hz.2, htp⟩
  have HSu := Lib.hid fun (W : World) (hb : Below w.heap.size w W) (m : Mn) (hm' : m ∈ ms) => (show Calls Tryz.prog 95 #[t.tab, .agg #[.slice m.rA m.rn m.rc], .slice A2 n2 c2] W fun e w' => e = .returned (.bool (crewB t dive m)) ∧ Below W.heap.size W w' by
    have hrl : m.rs.length = m.rn := (hr m hm').1
    have hrp : m.rn = t.pn := by
      have hz := (hms m hm').1
      simp only [suitB, Bool.and_eq_true, decide_eq_true_eq] at hz
      exact hz.1
    have := refSurely_c (m.tm t) (hok m hm') A2 n2 c2 dive (by omega) (by show m.rs.length ≤ 100; have := (hms m hm').2; omega) hds W ⟨hp.keep hb, hs.keep hb, (hr m hm').keep hb⟩ (hd.keep hb)
    rw [← keptF_worR (t := m.tm t) (hok m hm').rates (by show t.ps.length = m.rs.length; omega)] at this
    exact this)
  have HM := Lib.hid hm; have HN := Lib.hid hm.1
  clear hp hs hr hd hok hds hms htp hpl hm ht
  obtain ⟨pA, sA, rA, pn, pc, sn, sc, rn, rc, ps, ss, rs⟩ := t
  simp only [Tm.tab] at *
  have T0 := Lib.hid (Has.new w 50 #[.slice pA pn pc, .slice sA sn sc])
  have B0 := Lib.hid (newB (Below.refl w.heap.size w) (.cells #[.slice pA pn pc, .slice sA sn sc] 50))
  generalize hcl : crewL ⟨pA, sA, rA, pn, pc, sn, sc, rn, rc, ps, ss, rs⟩ dive ms = CL at *
  have HC0 := Lib.hid (show CL 0 = [] by rw [← hcl]; rfl)
  have HCl := Lib.hid fun k => (show (CL k).length ≤ k by rw [← hcl]; exact crewL_len _ _ _ k)
  have HCs := Lib.hid fun (k : Nat) (m : Mn) (hx : ms[k]? = some m) => (show CL (k + 1) = CL k ++ (if crewB ⟨pA, sA, rA, pn, pc, sn, sc, rn, rc, ps, ss, rs⟩ dive m then [(k : Int)] else []) by rw [← hcl]; simp only [crewL, hx])
  clear hcl
  have HO0 := Lib.hid fun (W : World) => (show W.ownsRow w.heap.size 3 1 (.slice none 0 0) (CL 0).length (flat inC (CL 0)) by rw [HC0.out]; exact World.ownsRow_nil _ _ _ _)
  go_enter Tryz.func47, Tryz.ntmps47
  go_wp2
  go_loopw [7, 8] (fun v i wr => ∃ k : Nat, k ≤ n ∧ i = .int .i64 k ∧ wr.ownsRow w.heap.size 3 1 v (CL k).length (flat inC (CL k)) ∧ Below w.heap.size w wr ∧ Has wr w.heap.size 50 #[.slice pA pn pc, .slice sA sn sc]) (fun _ i _ => n - (intOf i).toNat)
  case atStart => exact ⟨0, by omega, rfl, HO0.out _, B0.out, T0.out⟩
  case round =>
    obtain ⟨k, hk, rfl, hO, hB, hT⟩ := hrel
    have HO := Lib.hid hO; have HB := Lib.hid hB; have HT := Lib.hid hT
    clear hO hB hT
    by_cases hkn : k < n
    · have hkl : k < ms.length := by rw [HN.out]; exact hkn
      obtain ⟨b, o, he⟩ := HM.out.addr (by omega)
      have hx := List.getElem?_eq_getElem hkl
      have hmem := List.getElem_mem hkl
      obtain ⟨m, hmm⟩ : ∃ m, m = ms[k] := ⟨_, rfl⟩
      rw [← hmm] at hx hmem
      subst he
      have HR := Lib.hid fun (W : World) (hb : Below w.heap.size w W) => (HM.out.keep hb).range Mn.cs_len hx
      have HCL := Lib.hid (HCs.out k m hx)
      have hlk := Nat.le_trans (HCl.out k) (show k ≤ 1000000 by omega)
      have K1 := Lib.hid fun (W : World) (hb : Below w.heap.size w W) => HSu.out W hb m hmem
      clear hx hmm hmem
      generalize crewB ⟨pA, sA, rA, pn, pc, sn, sc, rn, rc, ps, ss, rs⟩ dive m = cb at *
      obtain ⟨mA, mn, mc, mr⟩ := m
      simp only at K1
      go_wp2
      apply wp_loose 7 (.v (.agg #[.slice pA pn pc, .slice sA sn sc]) :: .v (.slice (some ⟨b, o, none⟩) n c) :: .v (.int .i64 k) :: .v (.pointer (some ⟨b, o + k * 1, none⟩)) :: .v (.agg [.slice mA mn mc].toArray) :: .v (.slice A2 n2 c2) :: .v (.bool cb) :: []) (by kernel_rfl) (by kernel_rfl) (by kernel_rfl) (by decide) rfl
      intro K hK
      refine OblS.row rfl 50 (.tmp 3) rfl w.heap.size (by kernel_rfl) 50 _ _ HT.out Tryz.underlying50 rfl (by kernel_rfl) ?_
      refine OblS.val (by kernel_rfl) (fun w' _ _ => (by kernel_rfl)) ?_
      refine OblS.val (by kernel_rfl) (fun w' _ _ => (by kernel_rfl)) ?_
      refine OblS.val (by kernel_rfl) (fun w' _ _ => (by go_simp; try first | done | rfl)) ?_
      refine OblS.mid (by kernel_rfl) 53 (.tmp 18) rfl b (o + k * 1) rfl [.slice mA mn mc] _ (fun W hb => HR.out W (nextB HB.out hb)) Tryz.underlying53 rfl (by kernel_rfl) ?_
      refine OblS.val (by kernel_rfl) (fun w' _ _ => (by kernel_rfl)) ?_
      refine OblS.call 95 (by kernel_rfl) (fun w' hb _ => ⟨#[.agg #[.slice pA pn pc, .slice sA sn sc], .agg #[.slice mA mn mc], .slice A2 n2 c2], (by kernel_rfl), K1.out w' (nextB HB.out hb)⟩) ?_
      apply OblS.nil
      apply hK
      intro w2 hb hH
      clear hH hK K
      have B2 := Lib.hid (nextB HB.out hb); have T2 := Lib.hid (HT.out.after hb); have O2 := Lib.hid (owns_keep HO.out hb)
      clear hb
      simp only [Act.put, List.setIfInBounds_toArray, List.set_cons_zero, List.set_cons_succ, List.drop_succ_cons, List.drop_zero]
      cases cb
      · go_wp2
        go_roundw
        case rel => exact ⟨k + 1, by omega, by go_num, by rw [HCL.out, if_neg (by decide), List.append_nil]; exact O2.out, B2.out, T2.out⟩
        case measure => simp [intOf]; omega
      · go_wp2_with (at_builtin; refine wpList_app37 rfl _ _ rfl w.heap.size u7 _ rfl (O2.out.alloc _) hlk w2.heap.size (k : Int) rfl (Has.new w2 3 _) (newB B2.out _).size ?_; intro v7 w7 ho7 hb7 hsp; have O7 := Lib.hid ho7; have B7 := Lib.hid ((newB B2.out (.cells #[.int .i64 k] 3)).trans hb7); have T7 := Lib.hid (hsp.has (T2.out.alloc _) (by decide)); clear ho7 hb7 hsp)
        go_roundw
        case rel => exact ⟨k + 1, by omega, by go_num, by rw [HCL.out]; exact O7.out, B7.out, T7.out⟩
        case measure => simp [intOf]; omega
    · go_wp2
      have hke : k = n := by omega
      subst hke
      exact bodyPost_ret (results_tmp rfl _ _ _) rfl ⟨u7, rfl, HO.out, HB.out⟩
end Go.Proofs
namespace Go.Proofs
open Go.RowKit Go.Shelf Gas Go.ChangeShapes Go.WideShapes Go.Deep

theorem firstP_at {f : Nat → Bool} {k : Nat} : ∀ n : Nat, k < n → (∀ j, j < k → f j = false) → f k = true → firstP f n = k
  | 0, h, _, _ => by omega
  | n + 1, h, h1, h2 => by
    simp only [firstP]
    rcases Nat.lt_succ_iff_lt_or_eq.1 h with h' | rfl
    · rw [firstP_at n h' h1 h2, if_pos (by omega)]
    · have := (firstP_none (f := f) k).2 h1
      rw [if_neg (by omega), if_pos h2]
theorem firstFrom_firstP (f : Nat → Bool) (n : Nat) : firstFrom (fun p => f p.toNat) n 0 = if 0 ≤ firstP f n then some (firstP f n) else none := by
  cases h : firstFrom (fun p : Int => f p.toNat) n 0 with
  | none =>
    have h1 := firstFrom_none _ _ _ h
    have := (firstP_none (f := f) n).2 fun p hp => by simpa using h1 (p : Int) (by omega) (by omega)
    rw [if_neg (by omega)]
  | some m =>
    obtain ⟨a1, a2, a3, a4⟩ := firstFrom_some _ _ _ _ h
    have := firstP_at (f := f) (k := m.toNat) n (by omega) (fun j hj => by
      cases hf : f j
      · rfl
      · have := a4 (j : Int) (by omega) (by simpa using hf); omega) a3
    rw [this, if_pos (by omega)]
    congr 1; omega
theorem folR_keep (ps : List Pr) : ∀ (l : List St) (xs : List Bd) (mo pa i : Int), 0 ≤ mo → (folR ps xs mo pa i l).2 = (mo, pa)
  | [], _, _, _, _, _ => rfl
  | s :: l, xs, mo, pa, i, h => by
    show (folR ps (xs.map (aftB s)) (if 0 ≤ overL ps s.dl xs ∧ mo < 0 then i else mo) (if 0 ≤ overL ps s.dl xs ∧ mo < 0 then overL ps s.dl xs else pa) (i + 1) l).2 = _
    rw [if_neg (by omega), if_neg (by omega)]
    exact folR_keep ps l _ mo pa (i + 1) h
theorem worstL_eq {ps rs : List Pr} (hr : rs.all rateB = true) (hpl : ps.length = rs.length) : ∀ (l : List St) (h : Nat → Int → Pr) (k : Bool) (i : Int), 0 ≤ i →
    worstL ps rs ps.length (h, k) i (l ++ [st0]) = (if 0 ≤ (folR ps (bodiesL rs h) (-1) (-1) i l).2.1 then some (folR ps (bodiesL rs h) (-1) (-1) i l).2 else if 0 ≤ overL ps 0 (folR ps (bodiesL rs h) (-1) (-1) i l).1 then some (i + l.length, overL ps 0 (folR ps (bodiesL rs h) (-1) (-1) i l).1) else none)
  | [], h, k, i, hi => by
    show (match firstFrom (exP ps rs h 0) ps.length 0 with | some p => some (i, p) | none => none) = _
    rw [show firstFrom (exP ps rs h 0) ps.length 0 = (if 0 ≤ firstP (fun p => exceedsB ps rs h p 0) ps.length then some (firstP (fun p => exceedsB ps rs h p 0) ps.length) else none) from firstFrom_firstP (fun p => exceedsB ps rs h p 0) ps.length, hpl, ← overL_bodies ps rs h 0 hr]
    show _ = (if (0 : Int) ≤ -1 then _ else if 0 ≤ overL ps 0 (bodiesL rs h) then some (i + ((0 : Nat) : Int), overL ps 0 (bodiesL rs h)) else none)
    rw [if_neg (show ¬ (0 : Int) ≤ -1 by omega)]
    by_cases h1 : 0 ≤ overL ps 0 (bodiesL rs h)
    · rw [if_pos h1, if_pos h1]; simp
    · rw [if_neg h1, if_neg h1]
  | s :: l, h, k, i, hi => by
    have e : folR ps (bodiesL rs h) (-1) (-1) i (s :: l) = folR ps (bodiesL rs (stayH h s)) (if 0 ≤ overL ps s.dl (bodiesL rs h) ∧ (-1 : Int) < 0 then i else -1) (if 0 ≤ overL ps s.dl (bodiesL rs h) ∧ (-1 : Int) < 0 then overL ps s.dl (bodiesL rs h) else -1) (i + 1) l := by
      show folR ps ((bodiesL rs h).map (aftB s)) _ _ _ _ = _
      rw [map_bodiesL]
    have ew : worstL ps rs ps.length (h, k) i ((s :: l) ++ [st0]) = (match firstFrom (exP ps rs h s.dl) ps.length 0 with | some p => some (i, p) | none => worstL ps rs ps.length (stayH h s, enterB ps rs h s.dl k) (i + 1) (l ++ [st0])) := rfl
    rw [ew, e, show firstFrom (exP ps rs h s.dl) ps.length 0 = (if 0 ≤ firstP (fun p => exceedsB ps rs h p s.dl) ps.length then some (firstP (fun p => exceedsB ps rs h p s.dl) ps.length) else none) from firstFrom_firstP (fun p => exceedsB ps rs h p s.dl) ps.length]
    rw [show (firstP (fun p => exceedsB ps rs h p s.dl) ps.length) = overL ps s.dl (bodiesL rs h) by rw [overL_bodies ps rs h s.dl hr, hpl]]
    by_cases h1 : 0 ≤ overL ps s.dl (bodiesL rs h)
    · have c1 : 0 ≤ overL ps s.dl (bodiesL rs h) ∧ (-1 : Int) < 0 := ⟨h1, by omega⟩
      simp only [if_pos c1, if_pos h1]
      rw [folR_keep ps l _ _ _ _ hi]
      simp only [if_pos hi]
    · have c2 : ¬ (0 ≤ overL ps s.dl (bodiesL rs h) ∧ (-1 : Int) < 0) := fun h => h1 h.1
      simp only [if_neg c2, if_neg h1]
      rw [worstL_eq hr hpl l (stayH h s) (enterB ps rs h s.dl k) (i + 1) (by omega)]
      rw [show i + 1 + (l.length : Int) = i + ((s :: l).length : Int) by simp; omega]
theorem worst_sem {t : Tm} {dive : List St} (hdb : definedB t.ps t.ss t.rs dive 0 = true) (hpn : t.ps.length = t.pn) (hrl : t.rs.length = t.pn) (hr : t.rs.all rateB = true) :
    ((worR t dive).1 < 0 ∧ worstF t dive = (0, 0, 5) ∧ sureF t dive = (true, 0)) ∨ (¬ (worR t dive).1 < 0 ∧ worstF t dive = ((worR t dive).1, (worR t dive).2, 0) ∧ sureF t dive = (false, 0)) := by
  have h := worstL_eq (ps := t.ps) hr (by omega) dive h0 true 0 (by omega)
  rw [hpn] at h
  have hk := keptF_worR (t := t) hr (by omega) dive
  unfold worstF sureF
  rw [if_pos hdb, if_pos hdb, h, hk]
  unfold worR
  by_cases h1 : 0 ≤ (folR t.ps (bodiesL t.rs h0) (-1) (-1) 0 dive).2.1
  · rw [if_pos h1, if_pos h1]
    refine .inr ⟨by omega, rfl, by rw [decide_eq_false (by omega)]⟩
  · rw [if_neg h1, if_neg h1]
    by_cases h2 : 0 ≤ overL t.ps 0 (folR t.ps (bodiesL t.rs h0) (-1) (-1) 0 dive).1
    · rw [if_pos h2, if_pos h2]
      refine .inr ⟨by simp, by simp [worV], by simp⟩
    · rw [if_neg h2, if_neg h2]
      exact .inl ⟨by simp, rfl, by simp⟩

theorem shaped_at {P : Program} {t e : TypeId} {α : Type} [Inhabited α] {f : α → List Value} {ok : α → Prop} {sz : Nat} (ht : P.underlying t = some (.slice e)) (hc : P.cellsOf e = sz) (hz : 0 < sz) (hf : ∀ y, (f y).length = sz)
    {H : Type} {enc : TypeId × Value → H} {w : World} {base : Nat} {spare : Nat → Bool} {held : Bool} (he : ∀ (n : Nat) (cs : List Value) (x : DataW H × List MemPlace), DataW.trod enc P w base spare held n e cs = some x → ∃ y : α, cs = f y ∧ ok y)
    {fuel : Nat} {cs : List Value} {x : DataW H × List MemPlace} (h : DataW.trod enc P w base spare held fuel t cs = some x) : ∃ A n c xs, cs = [.slice A n c] ∧ SlOf f sz w A n xs ∧ n ≤ c ∧ c ≤ maxLen ∧ (A = none → c = 0) ∧ ∀ y ∈ xs, ok y := by
  rcases open_slice ht h with ⟨rfl, _⟩ | ⟨a, len, cap, m, n, D, Pl, rfl, hb, hl, hm, hmm, rfl, hx⟩
  · exact ⟨none, 0, 0, [], rfl, ⟨rfl, by simp [flat], fun h => absurd h (by omega)⟩, by omega, by omega, fun _ => rfl, fun y hy => by simp at hy⟩
  · have hlm : len ≤ m := by rw [hmm]; split <;> omega
    rw [hc] at hx
    obtain ⟨Y, hY⟩ := choose_lt (α := α) (p := fun i y => w.cells? base (a.add (i * sz)) sz = some (f y) ∧ ok y) (n := len) (fun i hi => by
      obtain ⟨cs', h1, h2⟩ := hx i (by omega)
      obtain ⟨y, rfl, hy⟩ := he n _ _ h2
      exact ⟨y, h1, hy⟩)
    have hxl : ((List.range len).map Y).length = len := by simp
    refine ⟨some a, len, cap, (List.range len).map Y, rfl, ⟨hxl, ⟨by rw [flat_len hf, hxl], fun h0 => ?_⟩⟩, hl, hm, fun h => (by cases h), fun y hy => ?_⟩
    · obtain ⟨b, off, spot⟩ := a
      have hs : spot = none := by
        have h1 := (World.cells?_some (hY 0 h0).1).2.2 0 hz
        have h2 : (f (Y 0))[0]? = some ((f (Y 0))[0]'(by rw [hf]; exact hz)) := List.getElem?_eq_getElem _
        rw [h2] at h1
        simpa [Addr.add] using World.cell?_spot h1
      subst hs
      refine ⟨b, off, rfl, fun j u hu => ?_⟩
      have hj : j < len * sz := by
        have := (List.getElem?_eq_some_iff.1 hu).1
        rwa [flat_len hf, hxl] at this
      have hk : j / sz < len := by rw [Nat.div_lt_iff_lt_mul hz]; exact hj
      have hr : j % sz < sz := Nat.mod_lt _ hz
      have hv : (f (Y (j / sz)))[j % sz]? = some ((f (Y (j / sz)))[j % sz]'(by rw [hf]; exact hr)) := List.getElem?_eq_getElem _
      have hfl := flat_at hf ((List.range len).map Y) (j / sz) (Y (j / sz)) (by simp [hk]) (j % sz) _ hv
      have hje : j / sz * sz + j % sz = j := by rw [Nat.mul_comm]; exact Nat.div_add_mod j sz
      rw [hje, hu] at hfl
      have h1 := (World.cells?_some (hY (j / sz) hk).1).2.2 (j % sz) hr
      rw [hv, add_add, hje, add_plain] at h1
      rw [h1, hfl]
    · simp only [List.mem_map, List.mem_range] at hy
      obtain ⟨i, hi, rfl⟩ := hy
      exact (hY i hi).2
/-- As shaped_slice; what is said of a thing may speak of memory. -/
theorem shaped_sliceW {P : Program} {t e : TypeId} {α : Type} [Inhabited α] {f : α → List Value} {ok : World → α → Prop} {sz : Nat} (ht : P.underlying t = some (.slice e)) (hc : P.cellsOf e = sz) (hz : 0 < sz) (hf : ∀ y, (f y).length = sz)
    (he : Shaped P e fun w cs => ∃ y : α, cs = f y ∧ ok w y) : Shaped P t fun w cs => ∃ A n c xs, cs = [.slice A n c] ∧ SlOf f sz w A n xs ∧ n ≤ c ∧ (A = none → c = 0) ∧ ∀ y ∈ xs, ok w y := by
  intro H enc w base spare held fuel cs x h
  exact (fun (hw : ∃ A n c xs, cs = [.slice A n c] ∧ SlOf f sz w A n xs ∧ n ≤ c ∧ c ≤ maxLen ∧ (A = none → c = 0) ∧ ∀ y ∈ xs, ok w y) => by
    obtain ⟨A, n, c, xs, h1, h2, h3, _, h5, h6⟩ := hw
    exact ⟨A, n, c, xs, h1, h2, h3, h5, h6⟩) (shaped_at ht hc hz hf (fun n cs x h => he H enc w base spare held n cs x h) h)
end Go.Proofs
namespace Go.Proofs
open Go.RowKit Go.Shelf Gas

theorem suit_defined {t : Tm} {m : Mn} {dive : List St} (hpn : t.ps.length = t.pn) (hm : m.rs.length = m.rn) : definedB t.ps t.ss m.rs dive 0 = (tableB t.ps t.ss && (suitB t m && diveB dive 0)) := by
  have : manB t.ps m.rs = suitB t m := by unfold manB suitB; rw [hpn, hm]
  simp only [definedB, this, Bool.and_assoc]
/-- What is known of the first man. -/
structure ManEnd (t : Tm) (A2 : Option Addr) (n2 c2 : Nat) (w : World) (m : Mn) (f0 s0 : Bool) (e0 wm wp we r1 r2 : Int) : Prop where
  sure : ∀ (W : World), Below w.heap.size w W → Calls Tryz.prog 40 #[t.tab, .agg #[.slice m.rA m.rn m.rc], .slice A2 n2 c2] W fun e w' => e = .returned (.tuple #[.bool s0, .int .i64 e0]) ∧ Below W.heap.size W w'
  worst : ∀ (W : World), Below w.heap.size w W → Calls Tryz.prog 43 #[t.tab, .agg #[.slice m.rA m.rn m.rc], .slice A2 n2 c2] W fun e w' => e = .returned (.tuple #[.int .i64 wm, .int .i64 wp, .int .i64 we]) ∧ Below W.heap.size W w'
  fine : ∀ (W : World), Below w.heap.size w W → Calls Tryz.prog 32 #[t.tab, .agg #[.slice m.rA m.rn m.rc], .slice A2 n2 c2] W fun e w' => e = .returned (.bool f0) ∧ Below W.heap.size W w'
  rworst : f0 = true → ∀ (W : World), Below w.heap.size w W → Calls Tryz.prog 48 #[t.tab, .agg #[.slice m.rA m.rn m.rc], .slice A2 n2 c2] W fun e w' => e = .returned (.tuple #[.int .i64 r1, .int .i64 r2]) ∧ Below W.heap.size W w'
  way : (f0 = false ∧ s0 = false ∧ e0 = 2 ∧ wm = 0 ∧ wp = 0 ∧ we = 2) ∨ (f0 = true ∧ r1 < 0 ∧ s0 = true ∧ e0 = 0 ∧ wm = 0 ∧ wp = 0 ∧ we = 5) ∨ (f0 = true ∧ ¬ r1 < 0 ∧ s0 = false ∧ e0 = 0 ∧ wm = r1 ∧ wp = r2 ∧ we = 0)
theorem man_end (t : Tm) (hpn : t.ps.length = t.pn) (A2 : Option Addr) (n2 c2 : Nat) (hA2 : A2 = none → c2 = 0) (dive : List St) (m : Mn) (w : World) (hsh : shortB (m.tm t) n2 = true) (hi : (m.tm t).In w) (hd : SlOf St.cs 4 w A2 n2 dive) :
    ∃ s0 e0 wm wp we r1 r2, ManEnd t A2 n2 c2 w m (definedB t.ps t.ss m.rs dive 0) s0 e0 wm wp we r1 r2 := by
  obtain ⟨q1, q2⟩ := short_small hsh
  have hrn : m.rs.length ≤ 100 := by
    have h1 : m.rs.length = m.rn := hi.rs.1
    have hs := of_decide_eq_true (p := t.pn ≤ 6 ∧ t.sn ≤ 7 ∧ m.rn ≤ 6 ∧ n2 ≤ 7) hsh
    omega
  have HS := fun (W : World) (hb : Below w.heap.size w W) => Surely_c (m.tm t) q1 A2 n2 c2 dive (by omega) W (hi.keep hb) (hd.keep hb)
  have HW := fun (W : World) (hb : Below w.heap.size w W) => Worst_c (m.tm t) q1 A2 n2 c2 dive hA2 (by omega) W (hi.keep hb) (hd.keep hb)
  have HF := fun (W : World) (hb : Below w.heap.size w W) => fine_c (m.tm t) q1 A2 n2 c2 dive (by omega) W (hi.keep hb) (hd.keep hb)
  cases hdb : definedB t.ps t.ss m.rs dive 0
  · refine ⟨false, 2, 0, 0, 2, 0, 0, ?_, ?_, ?_, ?_, .inl ⟨rfl, rfl, rfl, rfl, rfl, rfl⟩⟩
    · intro W hb
      have := HS W hb
      rw [show sureF (m.tm t) dive = (false, 2) by unfold sureF; rw [if_neg (by show ¬ definedB t.ps t.ss m.rs dive 0 = true; rw [hdb]; simp)]] at this
      exact this
    · intro W hb
      have := HW W hb
      rw [show worstF (m.tm t) dive = (0, 0, 2) by unfold worstF; rw [if_neg (by show ¬ definedB t.ps t.ss m.rs dive 0 = true; rw [hdb]; simp)]] at this
      exact this
    · intro W hb
      have := HF W hb
      rw [show definedB (m.tm t).ps (m.tm t).ss (m.tm t).rs dive 0 = false from hdb] at this
      exact this
    · intro h; cases h
  · obtain ⟨hok, hds, _⟩ := defined_ok q1 hi (dive := dive) (room := 0) hdb
    have hrl : (m.tm t).rs.length = t.pn := by rw [hi.rs.1]; exact hok.np
    have HR := fun (W : World) (hb : Below w.heap.size w W) => refWorst_c (m.tm t) hok A2 n2 c2 dive (by omega) hrn hds W (hi.keep hb) (hd.keep hb)
    rcases worst_sem (t := m.tm t) (dive := dive) hdb hpn hrl hok.rates with ⟨h1, h2, h3⟩ | ⟨h1, h2, h3⟩
    · refine ⟨true, 0, 0, 0, 5, _, _, ?_, ?_, ?_, fun _ => HR, .inr (.inl ⟨rfl, h1, rfl, rfl, rfl, rfl, rfl⟩)⟩
      · intro W hb
        have := HS W hb
        rw [h3] at this; exact this
      · intro W hb
        have := HW W hb
        rw [h2] at this; exact this
      · intro W hb
        have := HF W hb
        rw [show definedB (m.tm t).ps (m.tm t).ss (m.tm t).rs dive 0 = true from hdb] at this
        exact this
    · refine ⟨false, 0, _, _, 0, _, _, ?_, ?_, ?_, fun _ => HR, .inr (.inr ⟨rfl, h1, rfl, rfl, rfl, rfl, rfl⟩)⟩
      · intro W hb
        have := HS W hb
        rw [h3] at this; exact this
      · intro W hb
        have := HW W hb
        rw [h2] at this; exact this
      · intro W hb
        have := HF W hb
        rw [show definedB (m.tm t).ps (m.tm t).ss (m.tm t).rs dive 0 = true from hdb] at this
        exact this
/-- What is known of the crew. -/
def CrewEnd (t : Tm) (A A2 : Option Addr) (n c n2 c2 : Nat) (w : World) (G : Bool) (CL : List Int) : Prop :=
  (G = true ∧ n ≤ 6 ∧ CL.length ≤ 1000 ∧ (∀ (W : World), Below w.heap.size w W → Calls Tryz.prog 45 #[t.tab, .slice A n c, .slice A2 n2 c2] W fun e w' => ∃ A' c', e = .returned (.tuple #[.slice A' CL.length c', .int .i64 0]) ∧ SlOf inC 1 w' A' CL.length CL ∧ Below W.heap.size W w') ∧
    (∀ (W : World), Below w.heap.size w W → Calls Tryz.prog 47 #[t.tab, .slice A n c, .slice A2 n2 c2] W fun e w' => ∃ A' c', e = .returned (.slice A' CL.length c') ∧ SlOf inC 1 w' A' CL.length CL ∧ Below W.heap.size W w')) ∨
  ((G = false ∨ G = true ∧ 6 < n) ∧ ∀ (W : World), Below w.heap.size w W → Calls Tryz.prog 45 #[t.tab, .slice A n c, .slice A2 n2 c2] W fun e w' => e = .returned (.tuple #[.slice none 0 0, .int .i64 2]) ∧ Below W.heap.size W w')
theorem crew_end (t : Tm) (hrn : t.rn ≤ 1000000) (hpn : t.ps.length = t.pn) (A A2 : Option Addr) (n c n2 c2 : Nat) (hn : n ≤ 8) (ms : List Mn) (dive : List St) (w : World) (m0 : Mn) (hm0 : m0 ∈ ms) (hsh : ∀ m ∈ ms, shortB (m.tm t) n2 = true) (hp : SlOf prC 2 w t.pA t.pn t.ps) (hs : SlOf inC 1 w t.sA t.sn t.ss) (hm : SlOf Mn.cs 1 w A n ms) (hr : ∀ m ∈ ms, SlOf prC 2 w m.rA m.rn m.rs) (hd : SlOf St.cs 4 w A2 n2 dive) :
    ∃ CL, CrewEnd t A A2 n c n2 c2 w (ms.all fun m => definedB t.ps t.ss m.rs dive 0) CL := by
  have h0 := of_decide_eq_true (p := t.pn ≤ 6 ∧ t.sn ≤ 7 ∧ m0.rn ≤ 6 ∧ n2 ≤ 7) (hsh m0 hm0)
  have hts : t.Small := ⟨by omega, by omega, hrn⟩
  have hsm : ∀ m ∈ ms, m.rn ≤ 6 := fun m hm' => (of_decide_eq_true (p := t.pn ≤ 6 ∧ t.sn ≤ 7 ∧ m.rn ≤ 6 ∧ n2 ≤ 7) (hsh m hm')).2.2.1
  have hsu : ∀ m ∈ ms, definedB t.ps t.ss m.rs dive 0 = (tableB t.ps t.ss && (suitB t m && diveB dive 0)) := fun m hm' => suit_defined hpn (hr m hm').1
  refine ⟨crewL t dive ms n, ?_⟩
  by_cases htd : tableB t.ps t.ss = true ∧ n ≤ 6 ∧ diveB dive 0 = true
  · obtain ⟨htb, hn6, hdv⟩ := htd
    have hC := fun (W : World) (hb : Below w.heap.size w W) => Crew_t t hts htb A A2 n c n2 c2 ms dive hn6 hdv (by omega) (fun m hm' => by have := hsm m hm'; omega) W (hp.keep hb) (hs.keep hb) (hm.keep hb) (fun m hm' => (hr m hm').keep hb) (hd.keep hb)
    have hps : t.ps.all partB = true := by
      simp only [tableB, Bool.and_eq_true] at htb; exact htb.1.2
    cases hall : ms.all (suitB t)
    · refine .inr ⟨.inl ?_, fun W hb => (hC W hb).mono fun e w' h => ?_⟩
      · cases hg : (ms.all fun m => definedB t.ps t.ss m.rs dive 0)
        · rfl
        · exfalso
          have : ms.all (suitB t) = true := List.all_eq_true.2 fun m hm' => by
            have h1 := List.all_eq_true.1 hg m hm'
            rw [hsu m hm'] at h1
            simp only [Bool.and_eq_true] at h1
            exact h1.2.1
          rw [hall] at this; cases this
      · unfold IsCrew at h
        rw [if_neg (by rw [hall]; simp)] at h
        exact h
    · have hlen := crewL_len t dive ms n
      refine .inl ⟨List.all_eq_true.2 fun m hm' => ?_, hn6, by omega, fun W hb => (hC W hb).mono fun e w' h => ?_, fun W hb => ?_⟩
      · rw [hsu m hm', htb, List.all_eq_true.1 hall m hm', hdv]; rfl
      · unfold IsCrew at h
        rw [if_pos hall] at h
        obtain ⟨v, h1, h2, h3⟩ := h
        obtain ⟨A', c', rfl, h4, _⟩ := owns_sl (f := inC) (xs := crewL t dive ms n) rfl h2
        exact ⟨A', c', h1, h4, h3⟩
      · refine (refCrew_c t hts hps hpn A A2 n c n2 c2 ms dive (by omega) (by omega) (diveB_ok hdv) (fun m hm' => ⟨List.all_eq_true.1 hall m hm', by have := hsm m hm'; omega⟩) W (hp.keep hb) (hs.keep hb) (hm.keep hb) (fun m hm' => (hr m hm').keep hb) (hd.keep hb)).mono fun e w' ⟨v, h1, h2, h3⟩ => ?_
        obtain ⟨A', c', rfl, h4, _⟩ := owns_sl (f := inC) (xs := crewL t dive ms n) rfl h2
        exact ⟨A', c', h1, h4, h3⟩
  · refine .inr ⟨?_, fun W hb => Crew_e t hts A A2 n c n2 c2 dive (by omega) ?_ W (hp.keep hb) (hs.keep hb) (hd.keep hb)⟩
    · cases hg : (ms.all fun m => definedB t.ps t.ss m.rs dive 0)
      · exact .inl rfl
      · refine .inr ⟨rfl, ?_⟩
        have h1 := List.all_eq_true.1 hg m0 hm0
        rw [hsu m0 hm0] at h1
        simp only [Bool.and_eq_true] at h1
        by_cases h6 : n ≤ 6
        · exact absurd ⟨h1.1, h6, h1.2.2⟩ htd
        · omega
    · cases htb : tableB t.ps t.ss
      · exact .inl rfl
      · by_cases h6 : 6 < n
        · exact .inr (.inl h6)
        · cases hdv : diveB dive 0
          · exact .inr (.inr rfl)
          · exact absurd ⟨htb, by omega, hdv⟩ htd
end Go.Proofs
