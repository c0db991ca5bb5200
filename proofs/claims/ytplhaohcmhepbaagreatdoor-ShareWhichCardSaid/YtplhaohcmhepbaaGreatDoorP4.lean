/-
  Contracts of Book and of what a book is hold at every season and book of moderate size.
-/
import Derived.Test.YtplhaohcmhepbaaGreatDoorP3
import Derived.Lib.SliceRun
import Derived.Deep.RegionWith
namespace Go.Proofs
open Go.RowKit Go.Shelf
attribute [local go_sem ↓] Go.wp_at_zero Go.wp_at_succ

/-- A slice's header. -/
abbrev Sl3 := Option Addr × Nat × Nat
def slC (s : Sl3) : List Value := [.slice s.1 s.2.1 s.2.2]
theorem slC_len (s : Sl3) : (slC s).length = 1 := rfl
theorem slC_one (s : Sl3) : ∀ u ∈ slC s, u.oneCell' = true := by simp [slC, Value.oneCell']
def eS : El Sl3 := ⟨slC, 1, 78, 30, 24, .slice none 0 0⟩
theorem eS_ok : eS.Ok := ⟨slC_len, slC_one, by kernel_rfl, inf_of (by kernel_rfl) (by kernel_rfl) (by kernel_rfl) (by kernel_rfl), rfl, by decide, by decide⟩
/-- Headers of rows. -/
def RowsOf (w : World) (ss : List Sl3) (xss : List (List Int)) : Prop := ss.length = xss.length ∧ ∀ (j : Nat) (s : Sl3) (xs : List Int), ss[j]? = some s → xss[j]? = some xs → SlOf inC 1 w s.1 s.2.1 xs
theorem RowsOf.keep {w w' : World} {ss : List Sl3} {xss : List (List Int)} (h : RowsOf w ss xss) (hb : Below w.heap.size w w') : RowsOf w' ss xss := ⟨h.1, fun j s xs h1 h2 => (h.2 j s xs h1 h2).keep hb⟩
theorem RowsOf.get {w : World} {ss : List Sl3} {xss : List (List Int)} (h : RowsOf w ss xss) {j : Nat} (hj : j < xss.length) : ∃ s, ss[j]? = some s ∧ SlOf inC 1 w s.1 s.2.1 xss[j] := by
  have hs : j < ss.length := by rw [h.1]; exact hj
  exact ⟨ss[j], List.getElem?_eq_getElem hs, h.2 j _ _ (List.getElem?_eq_getElem hs) (List.getElem?_eq_getElem hj)⟩

/-- A book. -/
structure Bk where
  (rows : List (List Int)) (ac dn : List Int) (all : Int)
deriving DecidableEq
/-- A book as it lies in memory. -/
structure Bm where
  (R A D : Option Addr) (rn rc an ac dn dc : Nat) (ss : List Sl3) (b : Bk)
structure Bm.In (m : Bm) (w : World) : Prop where
  hs : SlOf slC 1 w m.R m.rn m.ss
  rows : RowsOf w m.ss m.b.rows
  ac : SlOf inC 1 w m.A m.an m.b.ac
  dn : SlOf inC 1 w m.D m.dn m.b.dn
theorem Bm.In.keep {m : Bm} {w w' : World} (h : m.In w) (hb : Below w.heap.size w w') : m.In w' := ⟨h.hs.keep hb, h.rows.keep hb, h.ac.keep hb, h.dn.keep hb⟩
def Bm.cells (m : Bm) : Array Value := #[.slice m.R m.rn m.rc, .slice m.A m.an m.ac, .slice m.D m.dn m.dc, .int .i64 m.b.all]
def Bm.val (m : Bm) : Value := .agg #[.slice m.R m.rn m.rc, .slice m.A m.an m.ac, .slice m.D m.dn m.dc, .int .i64 m.b.all]
structure Bm.Small (m : Bm) : Prop where
  r : m.rn ≤ 1000
  a : m.an ≤ 1000
  d : m.dn ≤ 1000

def most : Int := 1000000000000000
def numB (x : Int) : Bool := inB x 0 1000000000000000
def numsB (xs : List Int) : Bool := xs.all numB
def bookB (b : Bk) : Bool := decide (b.rows.length ≤ 6) && decide (b.dn.length ≤ 6) && decide (b.ac.length = b.rows.length) && b.rows.all (fun r => decide (r.length = b.dn.length) && numsB r) && numsB b.ac && numsB b.dn && numB b.all
def colF (b : Bk) (k : Nat) : List Int := b.rows.map fun r => r.getD k 0
def closesB (b : Bk) : Bool := (List.range b.rows.length).all (fun i => sumI (b.rows.getD i []) == b.ac.getD i 0) && (List.range b.dn.length).all (fun k => sumI (colF b k) == b.dn.getD k 0) && (sumI b.ac == b.all) && (sumI b.dn == b.all)

set_option maxHeartbeats 1000000 in
theorem areNumbers_c (A : Option Addr) (n c : Nat) (xs : List Int) (hn : n ≤ 1000000) (w : World) (hA : SlOf inC 1 w A n xs) :
    Calls Tryz.prog 152 #[.slice A n c] w fun e w' => e = .returned (.bool (numsB xs)) ∧ Below w.heap.size w w' := by
  have HA := Lib.hid hA; have HN := Lib.hid hA.1
  clear hA
  go_enter Tryz.func152, Tryz.ntmps152
  go_wp2
  go_loopw [7] (fun v wr => ∃ k : Nat, k ≤ n ∧ v = .int .i64 k ∧ Below w.heap.size w wr ∧ ∀ (j : Nat) x, j < k → xs[j]? = some x → numB x = true) (fun v _ => n - (intOf v).toNat)
  case atStart => exact ⟨0, by omega, rfl, Below.refl _ _, fun j x hj => absurd hj (by omega)⟩
  case round =>
    obtain ⟨k, hk, rfl, hB, hAl⟩ := hrel
    have HB := Lib.hid hB; have HAl := Lib.hid hAl
    clear hB hAl
    by_cases hkn : k < n
    · have hkl : k < xs.length := by rw [HN.out]; exact hkn
      obtain ⟨b, o, he⟩ := HA.out.addr (by omega)
      have hx := List.getElem?_eq_getElem hkl
      obtain ⟨x, hxx⟩ : ∃ x, x = xs[k] := ⟨_, rfl⟩
      rw [← hxx] at hx
      subst he
      have HX := Lib.hid hx
      have hc : wr.cell? ⟨b, o + k, none⟩ = some (.int .i64 x) := by have := (HA.out.keep HB.out).range inC_len hx 0 _ rfl; simpa using this
      clear hx hxx
      cases ht : inB x 0 1000000000000000
      · have T := Lib.hid ht
        clear ht
        go_wp2_with (go_at_call 102; refine (within_c _ _ _ _).mono ?_; rintro e w1 ⟨rfl, rfl⟩; rw [T.out])
        exact bodyPost_ret (results_tmp rfl _ _ _) rfl ⟨by rw [show numsB xs = false from all_not HX.out T.out]; rfl, HB.out⟩
      · have T := Lib.hid ht
        clear ht
        go_wp2_with (go_at_call 102; refine (within_c _ _ _ _).mono ?_; rintro e w1 ⟨rfl, rfl⟩; rw [T.out])
        go_roundw
        case rel => exact ⟨k + 1, by omega, by go_num, HB.out, all_next HAl.out HX.out T.out⟩
        case measure => simp [intOf]; omega
    · have hall := Lib.hid (show numsB xs = true from all_take HN.out HAl.out (by omega))
      go_wp2
      exact bodyPost_ret (results_tmp rfl _ _ _) rfl ⟨by rw [hall.out]; rfl, HB.out⟩

set_option maxHeartbeats 2000000 in
theorem column3_c (m : Bm) (hm : m.Small) (k : Nat) (hk : ∀ r ∈ m.b.rows, k < r.length) (w : World) (hi : m.In w) :
    Calls Tryz.prog 153 #[m.val, .int .i64 k] w (Gives eI w (colF m.b k)) := by
  obtain ⟨R, A, D, rn, rc, an, ac, dn, dc, ss, ⟨rows, acr, dnn, all⟩⟩ := m
  obtain ⟨h1, h2, _, _⟩ := hi
  obtain ⟨hr, _, _⟩ := hm
  simp only [Bm.val, colF] at *
  have HS := Lib.hid h1; have HR := Lib.hid h2; have HSL := Lib.hid h1.1; have HRL := Lib.hid h2.1; have HK := Lib.hid hk
  clear h1 h2 hk
  have B0 := Lib.hid (newB (Below.refl w.heap.size w) (.cells #[.slice R rn rc, .slice A an ac, .slice D dn dc, .int .i64 all] 138))
  go_enter Tryz.func153, Tryz.ntmps153
  go_wp2
  go_loopw [5, 12] (fun t v wr => ∃ j : Nat, j ≤ rn ∧ v = .int .i64 j ∧ Own eI w.heap.size t ((rows.map fun r => r.getD k 0).take j) wr ∧ Below w.heap.size w wr) (fun _ v _ => rn - (intOf v).toNat)
  case atStart => exact ⟨0, by omega, rfl, by simpa using Own.nil eI w.heap.size _, B0.out⟩
  case round =>
    obtain ⟨j, hj, rfl, hO, hB⟩ := hrel
    have HB := Lib.hid hB; have HO := Lib.hid hO
    clear hB hO
    by_cases hjn : j < rn
    · have hjl : j < rows.length := by rw [← HRL.out, HSL.out]; exact hjn
      have hsl : j < ss.length := by rw [HSL.out]; exact hjn
      obtain ⟨b, o, he⟩ := HS.out.addr (by omega)
      obtain ⟨s, hs, hrow⟩ := (HR.out.keep HB.out).get hjl
      have hkr := HK.out _ (List.getElem_mem hjl)
      have HT := Lib.hid (show (rows.map fun r => r.getD k 0).take (j + 1) = (rows.map fun r => r.getD k 0).take j ++ [rows[j].getD k 0] by
        rw [← List.take_append_getElem (show j < (rows.map fun r => r.getD k 0).length by simpa using hjl)]; simp)
      obtain ⟨r, hrr⟩ : ∃ r, r = rows[j] := ⟨_, rfl⟩
      rw [← hrr] at hrow hkr HT
      clear hrr
      subst he
      obtain ⟨A1, n1, c1⟩ := s
      have hc : wr.cell? ⟨b, o + j, none⟩ = some (.slice A1 n1 c1) := by have := (HS.out.keep HB.out).range slC_len hs 0 _ rfl; simpa using this
      simp only at hrow
      have hn1 : k < n1 := by rw [← hrow.1]; exact hkr
      obtain ⟨b1, o1, rfl⟩ := hrow.addr (by omega)
      have hx := List.getElem?_eq_getElem hkr
      have hg : r.getD k 0 = r[k] := by simp [List.getD_eq_getElem?_getD, hx]
      obtain ⟨x, hxx⟩ : ∃ x, x = r[k] := ⟨_, rfl⟩
      rw [← hxx] at hx hg
      have hc1 : wr.cell? ⟨b1, o1 + k, none⟩ = some (.int .i64 x) := by have := hrow.range inC_len hx 0 _ rfl; simpa using this
      rw [hg] at HT
      have HLn := Lib.hid (show ((rows.map fun r => r.getD k 0).take j).length ≤ 20000000 by simp; omega)
      clear hs hrow hx hxx hg hkr
      go_wp2_with (at_builtin; refine El.app1 eI_ok rfl _ _ rfl w.heap.size u5 _ rfl (HO.out.alloc (.cells #[.int .i64 x] 3)) HLn.out wr.heap.size x rfl (Has.new wr 3 _) (newB HB.out _).size ?_; intro v3 w3 ho3 hb3 _; have HO3 := Lib.hid ho3; have HB3 := Lib.hid ((newB HB.out (.cells #[.int .i64 x] 3)).trans hb3); clear ho3 hb3)
      go_roundw
      case rel => exact ⟨j + 1, by omega, by go_num, by rw [HT.out]; exact HO3.out, HB3.out⟩
      case measure => simp [intOf]; omega
    · have hjn' : j = rn := by omega
      subst hjn'
      have HE := Lib.hid (show (rows.map fun r => r.getD k 0).take j = rows.map fun r => r.getD k 0 from List.take_of_length_le (by simp; have := HRL.out; have := HSL.out; omega))
      go_wp2
      exact bodyPost_ret (results_tmp rfl _ _ _) rfl ⟨_, rfl, by rw [← HE.out]; exact HO.out, HB.out⟩
end Go.Proofs
namespace Go.Proofs
open Go.RowKit Go.Shelf
attribute [local go_sem ↓] Go.wp_at_zero Go.wp_at_succ

def rowOk (n : Nat) (r : List Int) : Bool := decide (r.length = n) && numsB r
theorem one_sl {w : World} {b : Nat} {x : Int} (h : Has w b 3 #[.int .i64 x]) : SlOf inC 1 w (some ⟨b, 0, none⟩) 1 [x] := SlOf.of_cells inC_len h rfl rfl
set_option maxHeartbeats 1000000 in
set_option maxRecDepth 20000 in
theorem isBook_c (m : Bm) (hm : m.Small) (hrn : ∀ s ∈ m.ss, s.2.1 ≤ 1000000) (w : World) (hi : m.In w) :
    Calls Tryz.prog 111 #[m.val] w fun e w' => e = .returned (.bool (bookB m.b)) ∧ Below w.heap.size w w' := by
  obtain ⟨R, A, D, rn, rc, an, ac, dn, dc, ss, ⟨rows, acr, dnr, all⟩⟩ := m
  have HI := Lib.hid hi
  obtain ⟨h1, h2, h3, h4⟩ := hi
  obtain ⟨m1, m2, m3⟩ := hm
  simp only [Bm.val] at *
  have e1 : rows.length = rn := by rw [← h2.1, h1.1]
  have e2 : acr.length = an := h3.1
  have e3 : dnr.length = dn := h4.1
  have HEq := Lib.hid (show bookB ⟨rows, acr, dnr, all⟩ = (decide (rn ≤ 6) && decide (dn ≤ 6) && decide (an = rn) && rows.all (rowOk dn) && numsB acr && numsB dnr && numB all) by unfold bookB rowOk; simp only [e1, e2, e3])
  have HS := Lib.hid h1; have HR := Lib.hid h2; have HSL := Lib.hid h1.1; have HRL := Lib.hid e1; have HK := Lib.hid hrn
  have HAc := Lib.hid fun (w' : World) (hb : Below w.heap.size w w') => areNumbers_c A an ac acr (by omega) w' (h3.keep hb)
  have HDn := Lib.hid fun (w' : World) (hb : Below w.heap.size w w') => areNumbers_c D dn dc dnr (by omega) w' (h4.keep hb)
  clear h1 h2 h3 h4 hrn e1 e2 e3
  have F0 := Lib.hid (Has.new w 80 #[.slice R rn rc, .slice A an ac, .slice D dn dc, .int .i64 all])
  have B0 := Lib.hid (newB (Below.refl w.heap.size w) (.cells #[.slice R rn rc, .slice A an ac, .slice D dn dc, .int .i64 all] 80))
  by_cases c1 : rn ≤ 6
  · have d1 : decide ((rn : Int) > 6) = false := by simp; omega
    by_cases c2 : dn ≤ 6
    · have d2 : decide ((dn : Int) > 6) = false := by simp; omega
      by_cases c3 : an = rn
      · have d3 : ((an : Int) != (rn : Int)) = false := by simp; omega
        have HE2 := Lib.hid (show bookB ⟨rows, acr, dnr, all⟩ = (rows.all (rowOk dn) && numsB acr && numsB dnr && numB all) by rw [HEq.out]; simp [c1, c2, c3])
        clear c3
        go_enter Tryz.func111, Tryz.ntmps111
        go_wp2
        go_loopw [27] (fun v wr => ∃ k : Nat, k ≤ rn ∧ v = .int .i64 k ∧ Below w.heap.size w wr ∧ Has wr w.heap.size 80 #[.slice R rn rc, .slice A an ac, .slice D dn dc, .int .i64 all] ∧ ∀ (j : Nat) x, j < k → rows[j]? = some x → rowOk dn x = true) (fun v _ => rn - (intOf v).toNat)
        case atStart => exact ⟨0, by omega, rfl, B0.out, F0.out, fun j x hj => absurd hj (by omega)⟩
        case round =>
          obtain ⟨k, hk, rfl, hB, hF, hAl⟩ := hrel
          have HB := Lib.hid hB; have HF := Lib.hid hF; have HAl := Lib.hid hAl
          have cf := hF.cell
          have zf := hF.lt
          clear hB hAl hF
          by_cases hkn : k < rn
          · have hkl : k < rows.length := by rw [HRL.out]; exact hkn
            obtain ⟨b, o, he⟩ := HS.out.addr (by omega)
            obtain ⟨s, hs, hrow⟩ := (HR.out.keep HB.out).get hkl
            have hs1 := HK.out s (List.mem_of_getElem? hs)
            have hx := List.getElem?_eq_getElem hkl
            obtain ⟨r, hrr⟩ : ∃ r, r = rows[k] := ⟨_, rfl⟩
            rw [← hrr] at hrow hx
            have HX := Lib.hid hx
            subst he
            obtain ⟨A1, n1, k1⟩ := s
            have hc : wr.cell? ⟨b, o + k, none⟩ = some (.slice A1 n1 k1) := by have := (HS.out.keep HB.out).range slC_len hs 0 _ rfl; simpa using this
            simp only at hrow hs1
            have HRow := Lib.hid hrow
            have HRn := Lib.hid hrow.1
            clear hs hrow hx hrr
            by_cases hnd : n1 = dn
            · subst hnd
              have hne : ((n1 : Int) != (n1 : Int)) = false := by simp
              cases ht : numsB r
              · have T := Lib.hid ht
                clear ht
                go_wp2_with (go_at_call 152; refine (areNumbers_c A1 n1 k1 r (by omega) _ HRow.out).mono ?_; rintro e w1 ⟨rfl, hb1⟩; rw [T.out]; have HB1 := Lib.hid (nextB HB.out hb1); clear hb1)
                exact bodyPost_ret (results_tmp rfl _ _ _) rfl ⟨by rw [HE2.out, all_not HX.out (show rowOk n1 r = false by simp [rowOk, T.out])]; rfl, HB1.out⟩
              · have T := Lib.hid ht
                clear ht
                go_wp2_with (go_at_call 152; refine (areNumbers_c A1 n1 k1 r (by omega) _ HRow.out).mono ?_; rintro e w1 ⟨rfl, hb1⟩; rw [T.out]; have HB1 := Lib.hid (nextB HB.out hb1); have HF1 := Lib.hid (HF.out.after hb1); clear hb1)
                go_roundw
                case rel => exact ⟨k + 1, by omega, by go_num, HB1.out, HF1.out, all_next HAl.out HX.out (show rowOk n1 r = true by simp [rowOk, T.out, HRn.out])⟩
                case measure => simp [intOf]; omega
            · have hne : ((n1 : Int) != (dn : Int)) = true := by simp; omega
              have hrf := Lib.hid (show rowOk dn r = false by simp [rowOk, HRn.out, hnd])
              clear hnd
              go_wp2
              exact bodyPost_ret (results_tmp rfl _ _ _) rfl ⟨by rw [HE2.out, all_not HX.out hrf.out]; rfl, HB.out⟩
          · have hall := all_take HRL.out HAl.out (show rn ≤ k by omega)
            have HE3 := Lib.hid (show bookB ⟨rows, acr, dnr, all⟩ = (numsB acr && numsB dnr && numB all) by rw [HE2.out, hall]; rfl)
            clear hall
            cases t1 : numsB acr
            · have T1 := Lib.hid t1
              clear t1
              go_wp2_with (go_at_call 152; with_reducible refine (HAc.out _ HB.out).mono ?_; rintro e w1 ⟨rfl, hb1⟩; rw [T1.out]; have HB1 := Lib.hid (nextB HB.out hb1); clear hb1)
              exact bodyPost_ret (results_tmp rfl _ _ _) rfl ⟨by rw [HE3.out, T1.out]; rfl, HB1.out⟩
            · have T1 := Lib.hid t1
              clear t1
              cases t2 : numsB dnr
              · have T2 := Lib.hid t2
                clear t2
                go_wp2_with (first
                  | (go_at_call 152; with_reducible refine (HAc.out _ HB.out).mono ?_; rintro e w1 ⟨rfl, hb1⟩; rw [T1.out]; have HB1 := Lib.hid (nextB HB.out hb1); have c1 := (HF.out.after hb1).cell; clear hb1)
                  | (go_at_call 152; with_reducible refine (HDn.out _ HB1.out).mono ?_; rintro e w2 ⟨rfl, hb2⟩; rw [T2.out]; have HB2 := Lib.hid (nextB HB1.out hb2); clear hb2))
                exact bodyPost_ret (results_tmp rfl _ _ _) rfl ⟨by rw [HE3.out, T1.out, T2.out]; rfl, HB2.out⟩
              · have T2 := Lib.hid t2
                have HE4 := Lib.hid (show bookB ⟨rows, acr, dnr, all⟩ = numB all by rw [HE3.out, T1.out, t2]; rfl)
                clear t2
                go_wp2_with (first
                  | (go_at_call 152; with_reducible refine (HAc.out _ HB.out).mono ?_; rintro e w1 ⟨rfl, hb1⟩; rw [T1.out]; have HB1 := Lib.hid (nextB HB.out hb1); have HF1 := Lib.hid (HF.out.after hb1); have c1 := (HF.out.after hb1).cell; clear hb1)
                  | (go_at_call 152; with_reducible refine (HDn.out _ HB1.out).mono ?_; rintro e w2 ⟨rfl, hb2⟩; rw [T2.out]; have HB2 := Lib.hid (nextB HB1.out hb2); have c2 := (HF1.out.after hb2).cell; clear hb2)
                  | (go_at_call 152; with_reducible refine (areNumbers_c (some ⟨w2.heap.size, 0, none⟩) 1 1 [all] (by omega) _ (one_sl (Has.new w2 3 _))).mono ?_; rintro e w3 ⟨rfl, hb3⟩; have HB3 := Lib.hid (nextB (newB HB2.out _) hb3); clear hb3))
                exact bodyPost_ret (results_tmp rfl _ _ _) rfl ⟨by rw [HE4.out]; simp [numsB], HB3.out⟩
      · have d3 : ((an : Int) != (rn : Int)) = true := by simp; omega
        have HE2 := Lib.hid (show bookB ⟨rows, acr, dnr, all⟩ = false by rw [HEq.out]; simp [c3])
        clear c3
        go_enter Tryz.func111, Tryz.ntmps111
        go_wp2
        exact bodyPost_ret (results_tmp rfl _ _ _) rfl ⟨by rw [HE2.out]; rfl, B0.out⟩
    · have d2 : decide ((dn : Int) > 6) = true := by simp; omega
      have HE2 := Lib.hid (show bookB ⟨rows, acr, dnr, all⟩ = false by rw [HEq.out]; simp [c2])
      go_enter Tryz.func111, Tryz.ntmps111
      go_wp2
      exact bodyPost_ret (results_tmp rfl _ _ _) rfl ⟨by rw [HE2.out]; rfl, B0.out⟩
  · have d1 : decide ((rn : Int) > 6) = true := by simp; omega
    have HE2 := Lib.hid (show bookB ⟨rows, acr, dnr, all⟩ = false by rw [HEq.out]; simp [c1])
    go_enter Tryz.func111, Tryz.ntmps111
    go_wp2
    exact bodyPost_ret (results_tmp rfl _ _ _) rfl ⟨by rw [HE2.out]; rfl, B0.out⟩
end Go.Proofs
namespace Go.Proofs
open Go.RowKit Go.Shelf
attribute [local go_sem ↓] Go.wp_at_zero Go.wp_at_succ

structure BkOk (b : Bk) : Prop where
  r : b.rows.length ≤ 6
  d : b.dn.length ≤ 6
  a : b.ac.length = b.rows.length
  row : ∀ r ∈ b.rows, r.length = b.dn.length
  num : ∀ r ∈ b.rows, ∀ x ∈ r, 0 ≤ x ∧ x ≤ 1000000000000000
  nac : ∀ x ∈ b.ac, 0 ≤ x ∧ x ≤ 1000000000000000
  ndn : ∀ x ∈ b.dn, 0 ≤ x ∧ x ≤ 1000000000000000
  nall : 0 ≤ b.all ∧ b.all ≤ 1000000000000000
theorem numsB_iff (xs : List Int) : numsB xs = true ↔ ∀ x ∈ xs, 0 ≤ x ∧ x ≤ 1000000000000000 := by
  simp only [numsB, List.all_eq_true, numB, inB, decide_eq_true_eq]
theorem bookB_iff (b : Bk) : bookB b = true ↔ BkOk b := by
  constructor
  · intro h
    simp only [bookB, Bool.and_eq_true, decide_eq_true_eq, List.all_eq_true, numsB_iff, numB, inB] at h
    obtain ⟨⟨⟨⟨⟨⟨h1, h2⟩, h3⟩, h4⟩, h5⟩, h6⟩, h7⟩ := h
    exact ⟨h1, h2, h3, fun r hr => (h4 r hr).1, fun r hr => (h4 r hr).2, h5, h6, h7⟩
  · rintro ⟨h1, h2, h3, h4, h5, h6, h7, h8⟩
    simp only [bookB, Bool.and_eq_true, decide_eq_true_eq, List.all_eq_true, numsB_iff, numB, inB]
    exact ⟨⟨⟨⟨⟨⟨h1, h2⟩, h3⟩, fun r hr => ⟨h4 r hr, h5 r hr⟩⟩, h6⟩, h7⟩, h8⟩
theorem few_sum (xs : List Int) (h : ∀ x ∈ xs, 0 ≤ x ∧ x ≤ 1000000000000000) (hl : xs.length ≤ 20) (j : Nat) : -4000000000000000000 ≤ sumI (xs.take j) ∧ sumI (xs.take j) ≤ 4000000000000000000 := by
  have := sumI_bd (xs.take j) 1000000000000000 (fun x hx => by have := h x (List.mem_of_mem_take hx); omega)
  have : (xs.take j).length ≤ 20 := by simp; omega
  omega
theorem colF_num {b : Bk} (h : BkOk b) {k : Nat} (hk : k < b.dn.length) : ∀ x ∈ colF b k, 0 ≤ x ∧ x ≤ 1000000000000000 := by
  intro x hx
  obtain ⟨r, hr, rfl⟩ := List.mem_map.1 hx
  have hl := h.row r hr
  have : r.getD k 0 = r[k]'(by omega) := by simp [List.getD_eq_getElem?_getD, List.getElem?_eq_getElem (show k < r.length by omega)]
  rw [this]
  exact h.num r hr _ (List.getElem_mem _)

def rowEq (b : Bk) (i : Nat) : Bool := sumI (b.rows.getD i []) == b.ac.getD i 0
def colEq (b : Bk) (k : Nat) : Bool := sumI (colF b k) == b.dn.getD k 0
theorem closesB_eq (b : Bk) : closesB b = ((List.range b.rows.length).all (rowEq b) && (List.range b.dn.length).all (colEq b) && (sumI b.ac == b.all) && (sumI b.dn == b.all)) := rfl

set_option maxHeartbeats 4000000 in
set_option maxRecDepth 20000 in
theorem closes_c (m : Bm) (hb : bookB m.b = true) (w : World) (hi : m.In w) :
    Calls Tryz.prog 112 #[m.val] w fun e w' => e = .returned (.bool (closesB m.b)) ∧ Below w.heap.size w w' := by
  have ok := (bookB_iff _).1 hb
  have e1 : m.b.rows.length = m.rn := by rw [← hi.rows.1, hi.hs.1]
  have e2 : m.b.ac.length = m.an := hi.ac.1
  have e3 : m.b.dn.length = m.dn := hi.dn.1
  have b1 := ok.r; have b2 := ok.d; have b3 := ok.a
  have HCol := Lib.hid fun (w' : World) (hb : Below w.heap.size w w') (k : Nat) (hk : k < m.dn) => column3_c m ⟨by omega, by omega, by omega⟩ k (fun r hr => by rw [ok.row r hr]; omega) w' (hi.keep hb)
  have HOk := Lib.hid ok
  rw [closesB_eq, e1, e3]
  have q1 : m.rn ≤ 6 := by omega
  have q2 : m.dn ≤ 6 := by omega
  have q3 : m.an = m.rn := by omega
  obtain ⟨R, A, D, rn, rc, an, ac, dn, dc, ss, ⟨rows, acr, dnr, all⟩⟩ := m
  obtain ⟨h1, h2, h3, h4⟩ := hi
  simp only [Bm.val] at *
  subst q3
  have HS := Lib.hid h1; have HR := Lib.hid h2; have HSL := Lib.hid h1.1; have HRL := Lib.hid e1; have HAl := Lib.hid e2; have HDl := Lib.hid e3
  have HA := Lib.hid h3; have HD := Lib.hid h4
  clear h1 h2 h3 h4 e1 e2 e3 ok b1 b2 b3 hb
  have F0 := Lib.hid (Has.new w 138 #[.slice R an rc, .slice A an ac, .slice D dn dc, .int .i64 all])
  have B0 := Lib.hid (newB (Below.refl w.heap.size w) (.cells #[.slice R an rc, .slice A an ac, .slice D dn dc, .int .i64 all] 138))
  go_enter Tryz.func112, Tryz.ntmps112
  go_wp2
  go_loopw [10] (fun v wr => ∃ k : Nat, k ≤ an ∧ v = .int .i64 k ∧ Below w.heap.size w wr ∧ Has wr w.heap.size 138 #[.slice R an rc, .slice A an ac, .slice D dn dc, .int .i64 all] ∧ ∀ j, j < k → rowEq ⟨rows, acr, dnr, all⟩ j = true) (fun v _ => an - (intOf v).toNat)
  case atStart => exact ⟨0, by omega, rfl, B0.out, F0.out, fun j hj => absurd hj (by omega)⟩
  case round =>
    obtain ⟨k, hk, rfl, hB, hF, hAll⟩ := hrel
    have HB := Lib.hid hB; have HF := Lib.hid hF; have HAll := Lib.hid hAll
    have cf := hF.cell
    have zf := hF.lt
    clear hB hAll hF
    by_cases hkn : k < an
    · have hkl : k < rows.length := by rw [HRL.out]; exact hkn
      have hal : k < acr.length := by rw [HAl.out]; exact hkn
      obtain ⟨b, o, he⟩ := HS.out.addr (by omega)
      obtain ⟨b2, o2, he2⟩ := HA.out.addr (by omega)
      obtain ⟨s, hs, hrow⟩ := (HR.out.keep HB.out).get hkl
      have hrn := HOk.out.num _ (List.getElem_mem hkl)
      have hrl := HOk.out.row _ (List.getElem_mem hkl)
      have hx := List.getElem?_eq_getElem hal
      have hgr : rows.getD k [] = rows[k] := by simp [List.getD_eq_getElem?_getD, List.getElem?_eq_getElem hkl]
      obtain ⟨r, hrr⟩ : ∃ r, r = rows[k] := ⟨_, rfl⟩
      obtain ⟨x, hxx⟩ : ∃ x, x = acr[k] := ⟨_, rfl⟩
      rw [← hrr] at hrow hrn hrl hgr
      rw [← hxx] at hx
      have hgx : acr.getD k 0 = x := by simp [List.getD_eq_getElem?_getD, hx]
      have HRE := Lib.hid (show rowEq ⟨rows, acr, dnr, all⟩ k = (sumI r == x) by unfold rowEq; simp only [hgr, hgx])
      subst he; subst he2
      obtain ⟨A1, n1, k1⟩ := s
      have hc : wr.cell? ⟨b, o + k, none⟩ = some (.slice A1 n1 k1) := by have := (HS.out.keep HB.out).range slC_len hs 0 _ rfl; simpa using this
      have CA := Lib.hid fun (w' : World) (hb : Below w.heap.size w w') => (show w'.cell? ⟨b2, o2 + k, none⟩ = some (.int .i64 x) from by have := (HA.out.keep hb).range inC_len hx 0 _ rfl; simpa using this)
      simp only at hrow
      have HRow := Lib.hid hrow
      have hn1 : n1 ≤ 6 := by rw [← hrow.1, hrl]; have := HDl.out; simp only; omega
      have HSm := Lib.hid fun (w' : World) (hb : Below wr.heap.size wr w') => sum_c A1 n1 k1 r (by omega) (fun j _ => few_sum r hrn (by rw [hrow.1]; omega) j) w' (hrow.keep hb)
      clear hs hrow hx hrr hxx hgr hgx hrn hrl
      rcases Bool.eq_false_or_eq_true (sumI r == x) with hq | hq
      · have hne : (sumI r != x) = false := by simpa using hq
        have HQ := Lib.hid (show rowEq ⟨rows, acr, dnr, all⟩ k = true by rw [HRE.out, hq])
        clear hq
        go_wp2
        refine wp_free 9 (by kernel_rfl) (by kernel_rfl) (by kernel_rfl) (by decide) ?_
        intro K hK
        apply Obl.val (by decide) (by kernel_rfl)
        · intro w' hb; go_simp; rfl
        apply Obl.call (f := 109) (by decide) (by kernel_rfl)
        · intro w' hb; go_simp; exact rfl
        · intro w' hb; exact HSm.out w' hb
        iterate 7 (apply Obl.val (by decide) (by kernel_rfl); (intro w' hb; have := (HF.out.after hb).cell; have := CA.out w' (nextB HB.out hb); go_simp; rfl))
        apply Obl.nil
        apply hK
        intro w2 hb
        simp only [Act.put, List.setIfInBounds_toArray, List.set_cons_zero, List.set_cons_succ, List.drop_succ_cons, List.drop_zero]
        clear hK K
        have HB2 := Lib.hid (nextB HB.out hb); have HF2 := Lib.hid (HF.out.after hb)
        clear hb
        go_wp2
        go_roundw
        case rel => exact ⟨k + 1, by omega, by go_num, HB2.out, HF2.out, fun j hj => by rcases Nat.lt_succ_iff_lt_or_eq.1 hj with h | rfl; exact HAll.out j h; exact HQ.out⟩
        case measure => simp [intOf]; omega
      · have hne : (sumI r != x) = true := by simpa using hq
        have HQ := Lib.hid (show rowEq ⟨rows, acr, dnr, all⟩ k = false by rw [HRE.out, hq])
        clear hq
        go_wp2
        refine wp_free 9 (by kernel_rfl) (by kernel_rfl) (by kernel_rfl) (by decide) ?_
        intro K hK
        apply Obl.val (by decide) (by kernel_rfl)
        · intro w' hb; go_simp; rfl
        apply Obl.call (f := 109) (by decide) (by kernel_rfl)
        · intro w' hb; go_simp; exact rfl
        · intro w' hb; exact HSm.out w' hb
        iterate 7 (apply Obl.val (by decide) (by kernel_rfl); (intro w' hb; have := (HF.out.after hb).cell; have := CA.out w' (nextB HB.out hb); go_simp; rfl))
        apply Obl.nil
        apply hK
        intro w2 hb
        simp only [Act.put, List.setIfInBounds_toArray, List.set_cons_zero, List.set_cons_succ, List.drop_succ_cons, List.drop_zero]
        clear hK K
        have HB2 := Lib.hid (nextB HB.out hb)
        clear hb
        go_wp2
        refine bodyPost_ret (results_tmp rfl _ _ _) rfl ⟨?_, HB2.out⟩
        rw [show (List.range an).all (rowEq ⟨rows, acr, dnr, all⟩) = false from List.all_eq_false.2 ⟨k, List.mem_range.2 hkn, by rw [HQ.out]; decide⟩]
        rfl
    · have hkn' : k = an := by omega
      subst hkn'
      have HA1 := Lib.hid (show (List.range k).all (rowEq ⟨rows, acr, dnr, all⟩) = true from List.all_eq_true.2 fun j hj => HAll.out j (List.mem_range.1 hj))
      obtain ⟨wo, rfl⟩ : ∃ wo : World, wo = wr := ⟨_, rfl⟩
      go_wp2
      go_loopw [29] (fun v wr => ∃ j : Nat, j ≤ dn ∧ v = .int .i64 j ∧ Below w.heap.size w wr ∧ Has wr w.heap.size 138 #[.slice R k rc, .slice A k ac, .slice D dn dc, .int .i64 all] ∧ ∀ i, i < j → colEq ⟨rows, acr, dnr, all⟩ i = true) (fun v _ => dn - (intOf v).toNat)
      case atStart => exact ⟨0, by omega, rfl, HB.out, HF.out, fun j hj => absurd hj (by omega)⟩
      case round =>
        obtain ⟨j, hj, rfl, hB, hF, hAll⟩ := hrel
        clear HB HF HAll
        have HB := Lib.hid hB; have HF := Lib.hid hF; have HAll := Lib.hid hAll
        clear hB hAll hF cf zf
        have cf := HF.out.cell
        have zf := HF.out.lt
        by_cases hjn : j < dn
        · have hdl : j < dnr.length := by rw [HDl.out]; exact hjn
          obtain ⟨b2, o2, he2⟩ := HD.out.addr (by omega)
          have hx := List.getElem?_eq_getElem hdl
          obtain ⟨x, hxx⟩ : ∃ x, x = dnr[j] := ⟨_, rfl⟩
          rw [← hxx] at hx
          have hgx : dnr.getD j 0 = x := by simp [List.getD_eq_getElem?_getD, hx]
          have HRE := Lib.hid (show colEq ⟨rows, acr, dnr, all⟩ j = (sumI (colF ⟨rows, acr, dnr, all⟩ j) == x) by unfold colEq; simp only [hgx])
          have HCN := Lib.hid (colF_num HOk.out (k := j) (by simpa [HDl.out] using hjn))
          have HCL := Lib.hid (show (colF ⟨rows, acr, dnr, all⟩ j).length ≤ 6 by have := HRL.out; simp [colF]; omega)
          subst he2
          have CA := Lib.hid fun (w' : World) (hb : Below w.heap.size w w') => (show w'.cell? ⟨b2, o2 + j, none⟩ = some (.int .i64 x) from by have := (HD.out.keep hb).range inC_len hx 0 _ rfl; simpa using this)
          clear hx hxx hgx
          rcases Bool.eq_false_or_eq_true (sumI (colF ⟨rows, acr, dnr, all⟩ j) == x) with hq | hq
          · have hne : (sumI (colF ⟨rows, acr, dnr, all⟩ j) != x) = false := by simpa using hq
            have HQ := Lib.hid (show colEq ⟨rows, acr, dnr, all⟩ j = true by rw [HRE.out, hq])
            clear hq
            go_wp2
            apply wp_loose 11 [.v _, .v _, .r (fun v w' => Own eI w.heap.size v (colF ⟨rows, acr, dnr, all⟩ j) w'), .v _, .v _, .v _, .v _, .v _, .v _, .v _, .v _] (by kernel_rfl) (by kernel_rfl) (by kernel_rfl) (by decide) rfl
            intro K hK
            refine OblS.row rfl 138 _ rfl w.heap.size rfl 138 _ _ HF.out Tryz.underlying138 rfl (by kernel_rfl) ?_
            apply OblS.val rfl
            · intro w' hb _; go_simp; rfl
            apply OblS.callR 153
            · intro v w1 w2 h hb; exact h.keep hb
            · rfl
            · intro w' hb _
              apply Exists.intro; apply And.intro; (go_simp; rfl); refine (HCol.out w' (nextB HB.out hb) j hjn).mono ?_
              rintro e w2 ⟨v, rfl, ho, hb2⟩
              exact ⟨v, rfl, ho.lower (nextB HB.out hb).size, hb2⟩
            intro v2
            apply OblS.call (v := .int .i64 (sumI (colF ⟨rows, acr, dnr, all⟩ j))) 109 rfl
            · intro w' hb hH
              have ho := hH _ (List.mem_cons_self ..) (by kernel_rfl)
              obtain ⟨A2, c2, rfl, hsl, _⟩ := Own.sl ho
              apply Exists.intro; apply And.intro; (go_simp; rfl); exact sum_c A2 _ c2 (colF ⟨rows, acr, dnr, all⟩ j) (by have := HCL.out; omega) (fun i _ => few_sum _ HCN.out (by have := HCL.out; omega) i) w' hsl
            apply OblS.val rfl
            · intro w' hb _; go_simp; rfl
            apply OblS.val rfl
            · intro w' hb _; go_simp; rfl
            apply OblS.val rfl
            · intro w' hb _; have := (HF.out.after hb).cell; go_simp; rfl
            apply OblS.val rfl
            · intro w' hb _; go_simp; rfl
            apply OblS.val rfl
            · intro w' hb _; go_simp; rfl
            apply OblS.val rfl
            · intro w' hb _; have := CA.out w' (nextB HB.out hb); go_simp; rfl
            apply OblS.val rfl
            · intro w' hb _; go_simp; rfl
            apply OblS.nil
            apply hK
            intro w2 hb hH
            clear hH hK K
            simp only [Act.put, List.setIfInBounds_toArray, List.set_cons_zero, List.set_cons_succ, List.drop_succ_cons, List.drop_zero]
            have HB2 := Lib.hid (nextB HB.out hb); have HF2 := Lib.hid (HF.out.after hb)
            clear hb
            go_wp2
            go_roundw
            case rel => exact ⟨j + 1, by omega, by go_num, HB2.out, HF2.out, fun i hi => by rcases Nat.lt_succ_iff_lt_or_eq.1 hi with h | rfl; exact HAll.out i h; exact HQ.out⟩
            case measure => simp [intOf]; omega
          · have hne : (sumI (colF ⟨rows, acr, dnr, all⟩ j) != x) = true := by simpa using hq
            have HQ := Lib.hid (show colEq ⟨rows, acr, dnr, all⟩ j = false by rw [HRE.out, hq])
            clear hq
            go_wp2
            apply wp_loose 11 [.v _, .v _, .r (fun v w' => Own eI w.heap.size v (colF ⟨rows, acr, dnr, all⟩ j) w'), .v _, .v _, .v _, .v _, .v _, .v _, .v _, .v _] (by kernel_rfl) (by kernel_rfl) (by kernel_rfl) (by decide) rfl
            intro K hK
            refine OblS.row rfl 138 _ rfl w.heap.size rfl 138 _ _ HF.out Tryz.underlying138 rfl (by kernel_rfl) ?_
            apply OblS.val rfl
            · intro w' hb _; go_simp; rfl
            apply OblS.callR 153
            · intro v w1 w2 h hb; exact h.keep hb
            · rfl
            · intro w' hb _
              apply Exists.intro; apply And.intro; (go_simp; rfl); refine (HCol.out w' (nextB HB.out hb) j hjn).mono ?_
              rintro e w2 ⟨v, rfl, ho, hb2⟩
              exact ⟨v, rfl, ho.lower (nextB HB.out hb).size, hb2⟩
            intro v2
            apply OblS.call (v := .int .i64 (sumI (colF ⟨rows, acr, dnr, all⟩ j))) 109 rfl
            · intro w' hb hH
              have ho := hH _ (List.mem_cons_self ..) (by kernel_rfl)
              obtain ⟨A2, c2, rfl, hsl, _⟩ := Own.sl ho
              apply Exists.intro; apply And.intro; (go_simp; rfl); exact sum_c A2 _ c2 (colF ⟨rows, acr, dnr, all⟩ j) (by have := HCL.out; omega) (fun i _ => few_sum _ HCN.out (by have := HCL.out; omega) i) w' hsl
            apply OblS.val rfl
            · intro w' hb _; go_simp; rfl
            apply OblS.val rfl
            · intro w' hb _; go_simp; rfl
            apply OblS.val rfl
            · intro w' hb _; have := (HF.out.after hb).cell; go_simp; rfl
            apply OblS.val rfl
            · intro w' hb _; go_simp; rfl
            apply OblS.val rfl
            · intro w' hb _; go_simp; rfl
            apply OblS.val rfl
            · intro w' hb _; have := CA.out w' (nextB HB.out hb); go_simp; rfl
            apply OblS.val rfl
            · intro w' hb _; go_simp; rfl
            apply OblS.nil
            apply hK
            intro w2 hb hH
            clear hH hK K
            simp only [Act.put, List.setIfInBounds_toArray, List.set_cons_zero, List.set_cons_succ, List.drop_succ_cons, List.drop_zero]
            have HB2 := Lib.hid (nextB HB.out hb); have HF2 := Lib.hid (HF.out.after hb)
            clear hb
            go_wp2
            refine bodyPost_ret (results_tmp rfl _ _ _) rfl ⟨?_, HB2.out⟩
            rw [show (List.range dn).all (colEq ⟨rows, acr, dnr, all⟩) = false from List.all_eq_false.2 ⟨j, List.mem_range.2 hjn, by rw [HQ.out]; decide⟩]
            simp
        · have hjn' : j = dn := by omega
          subst hjn'
          have HA2 := Lib.hid (show (List.range j).all (colEq ⟨rows, acr, dnr, all⟩) = true from List.all_eq_true.2 fun i hi => HAll.out i (List.mem_range.1 hi))
          have HSA := Lib.hid fun (w' : World) (hb : Below wr.heap.size wr w') => sum_c A k ac acr (by omega) (fun i _ => few_sum acr HOk.out.nac (by have := HAl.out; omega) i) w' (HA.out.keep (nextB HB.out hb))
          have HSD := Lib.hid fun (w' : World) (hb : Below wr.heap.size wr w') => sum_c D j dc dnr (by omega) (fun i _ => few_sum dnr HOk.out.ndn (by have := HDl.out; omega) i) w' (HD.out.keep (nextB HB.out hb))
          rcases Bool.eq_false_or_eq_true (sumI acr == all) with hq | hq
          · have HQ := Lib.hid hq
            go_wp2
            refine wp_free 19 (by kernel_rfl) (by kernel_rfl) (by kernel_rfl) (by decide) ?_
            intro K hK
            iterate 3 (apply Obl.val (by decide) (by kernel_rfl); (intro w' hb; have := (HF.out.after hb).cell; go_simp; rfl))
            apply Obl.call (f := 109) (by decide) (by kernel_rfl)
            · intro w' hb; go_simp; exact rfl
            · intro w' hb; exact HSA.out w' hb
            iterate 8 (apply Obl.val (by decide) (by kernel_rfl); (intro w' hb; have := (HF.out.after hb).cell; go_simp; rfl))
            apply Obl.call (f := 109) (by decide) (by kernel_rfl)
            · intro w' hb; go_simp; exact rfl
            · intro w' hb; exact HSD.out w' hb
            iterate 6 (apply Obl.val (by decide) (by kernel_rfl); (intro w' hb; have := (HF.out.after hb).cell; go_simp; rfl))
            apply Obl.nil
            apply hK
            intro w2 hb
            simp only [Act.put, List.setIfInBounds_toArray, List.set_cons_zero, List.set_cons_succ, List.drop_succ_cons, List.drop_zero]
            clear hK K
            have HB2 := Lib.hid (nextB HB.out hb)
            clear hb
            go_wp2
            exact bodyPost_ret (results_tmp rfl _ _ _) rfl ⟨by rw [HA1.out, HA2.out, HQ.out]; rfl, HB2.out⟩
          · have HQ := Lib.hid hq
            go_wp2
            refine wp_free 19 (by kernel_rfl) (by kernel_rfl) (by kernel_rfl) (by decide) ?_
            intro K hK
            iterate 3 (apply Obl.val (by decide) (by kernel_rfl); (intro w' hb; have := (HF.out.after hb).cell; go_simp; rfl))
            apply Obl.call (f := 109) (by decide) (by kernel_rfl)
            · intro w' hb; go_simp; exact rfl
            · intro w' hb; exact HSA.out w' hb
            iterate 5 (apply Obl.val (by decide) (by kernel_rfl); (intro w' hb; have := (HF.out.after hb).cell; go_simp; rfl))
            iterate 8 (apply Obl.skip (by decide) (by kernel_rfl))
            iterate 2 (apply Obl.val (by decide) (by kernel_rfl); (intro w' hb; have := (HF.out.after hb).cell; go_simp; rfl))
            apply Obl.nil
            apply hK
            intro w2 hb
            simp only [Act.put, List.setIfInBounds_toArray, List.set_cons_zero, List.set_cons_succ, List.drop_succ_cons, List.drop_zero]
            clear hK K
            have HB2 := Lib.hid (nextB HB.out hb)
            clear hb
            go_wp2
            exact bodyPost_ret (results_tmp rfl _ _ _) rfl ⟨by rw [HA1.out, HA2.out, HQ.out]; rfl, HB2.out⟩
end Go.Proofs
namespace Go.Proofs
open Go.RowKit Go.Shelf
attribute [local go_sem ↓] Go.wp_at_zero Go.wp_at_succ

/-- A list appended to one that was made here. -/
theorem El.appMany {α : Type} {e : El α} (hk : e.Ok) {w : World} {ops : Array Oper} {rest : List Oper} {o : Oper} {a : Act} {Q : Exit → Act → World → Prop} (hgd : o.guard = none) (s x : Operand)
    (ho : o.op = .call { callee := .builtin .append, args := #[s, x], argTypes := #[e.T, e.T] })
    (base : Nat) (v : Value) (xs : List α) (hs : a.eval s = v) (hown : Own e base v xs w)
    (A : Addr) (m c : Nat) (ys : List α) (hx : a.eval x = .slice (some A) m c) (hsl : SlOf e.f e.sz w (some A) m ys) (hlen : xs.length + m ≤ 20000000) (hbase : base ≤ w.heap.size)
    (h : ∀ v' w', Own e base v' (xs ++ ys) w' → Below base w w' → Spares w w' e.E → wpList Tryz.prog ops Q rest (a.put o.dst v') w') : wpList Tryz.prog ops Q (o :: rest) a w := by
  obtain ⟨i, hi, hz, hby, hsz⟩ := hk.inf
  have h1000 := hk.small
  have hm := hsl.1
  refine wpList_append_own w hgd s x e.T ho base e.E i _ e.sz e.by' hk.und hi hz hsz hby hk.zc hk.pos v xs.length _ hs hown A m c (flat e.f ys) hx (by rw [flat_len hk.len, hm]) ?_ (flat_one hk.one ys) (by unfold maxLen; omega)
    (by have := Nat.mul_le_mul hlen h1000; omega) hbase
    (fun v' w' e1 e2 _ => h v' w' (by unfold Own; rw [flat_append]; simpa [hm] using e1) (below_grown e2 (fun r hr => (hown.lt r hr).1) hbase) (Spares.of_grown hown e2))
  intro j u hu
  have hl := flat_len hk.len ys
  have hj := (List.getElem?_eq_some_iff.1 hu).1
  have hmp : 0 < m := by
    rcases Nat.eq_zero_or_pos m with h0 | h0
    · rw [hl, hm, h0] at hj; omega
    · exact h0
  obtain ⟨b, o', e, hc⟩ := hsl.2.2 hmp
  cases e
  have := hc j u hu
  have hadd : (⟨b, o', none⟩ : Addr).add j = ⟨b, o' + j, none⟩ := by unfold Addr.add; split <;> simp_all
  rw [hadd]; exact this

/-- slices.Clone. -/
theorem cloneI_c (A : Option Addr) (n c : Nat) (xs : List Int) (hn : n ≤ 1000000) (w : World) (hA : SlOf inC 1 w A n xs) : Calls Tryz.prog 154 #[.slice A n c] w (Gives eI w xs) := by
  have qT : ∀ (w : World) (a : Option Addr) (n c n' c' : Nat), (binOp .eql 30 (.slice a n c) (.slice none n' c')).run Tryz.prog w = .ok (.bool a.isNone) w := fun w a n c n' c' => Lib.run_eql_slice_nil w _ _ a n c n' c' Tryz.underlying30
  rcases A with _ | ad
  · have hn0 : n = 0 := by
      rcases Nat.eq_zero_or_pos n with h | h
      · exact h
      · obtain ⟨_, _, e⟩ := hA.addr h; cases e
    have hx0 : xs = [] := List.eq_nil_of_length_eq_zero (by rw [hA.1, hn0])
    subst hx0
    clear hA
    go_enter Tryz.func154, Tryz.ntmps154
    go_wp2
    exact bodyPost_ret (results_tmp rfl _ _ _) rfl ⟨_, rfl, Own.nil eI _ _, Below.refl _ _⟩
  · have HA := Lib.hid hA; have HN := Lib.hid hA.1
    have B0 := Lib.hid (newB (Below.refl w.heap.size w) (.cells #[] 3))
    have HO := Lib.hid (show Own eI w.heap.size (.slice (some ⟨w.heap.size, 0, none⟩) 0 0) [] (w.alloc (.cells #[] 3)) from Own.of_has (n := 0) eI_ok (Has.new w 3 #[]) (Nat.le_refl _) rfl rfl rfl (by unfold maxLen; omega))
    clear hA
    go_enter Tryz.func154, Tryz.ntmps154
    go_wp2_with (at_builtin; refine El.appMany eI_ok rfl _ _ rfl w.heap.size (.slice (some ⟨w.heap.size, 0, none⟩) 0 0) [] rfl HO.out ad n c xs rfl (HA.out.keep B0.out) (by simp; omega) B0.out.size ?_; intro v3 w3 ho3 hb3 _; have HO3 := Lib.hid ho3; have HB3 := Lib.hid (B0.out.trans hb3); clear ho3 hb3)
    exact bodyPost_ret (results_tmp rfl _ _ _) rfl ⟨v3, rfl, by simpa using HO3.out, HB3.out⟩
/-- slices.Clone. -/
theorem cloneP_c (A : Option Addr) (n c : Nat) (xs : List Pe) (hn : n ≤ 1000000) (w : World) (hA : SlOf Pe.cs 3 w A n xs) : Calls Tryz.prog 182 #[.slice A n c] w (Gives eP w xs) := by
  have qT : ∀ (w : World) (a : Option Addr) (n c n' c' : Nat), (binOp .eql 22 (.slice a n c) (.slice none n' c')).run Tryz.prog w = .ok (.bool a.isNone) w := fun w a n c n' c' => Lib.run_eql_slice_nil w _ _ a n c n' c' Tryz.underlying22
  rcases A with _ | ad
  · have hn0 : n = 0 := by
      rcases Nat.eq_zero_or_pos n with h | h
      · exact h
      · obtain ⟨_, _, e⟩ := hA.addr h; cases e
    have hx0 : xs = [] := List.eq_nil_of_length_eq_zero (by rw [hA.1, hn0])
    subst hx0
    clear hA
    go_enter Tryz.func182, Tryz.ntmps182
    go_wp2
    exact bodyPost_ret (results_tmp rfl _ _ _) rfl ⟨_, rfl, Own.nil eP _ _, Below.refl _ _⟩
  · have HA := Lib.hid hA; have HN := Lib.hid hA.1
    have B0 := Lib.hid (newB (Below.refl w.heap.size w) (.cells #[] 49))
    have HO := Lib.hid (show Own eP w.heap.size (.slice (some ⟨w.heap.size, 0, none⟩) 0 0) [] (w.alloc (.cells #[] 49)) from Own.of_has (n := 0) eP_ok (Has.new w 49 #[]) (Nat.le_refl _) rfl rfl rfl (by unfold maxLen; omega))
    clear hA
    go_enter Tryz.func182, Tryz.ntmps182
    go_wp2_with (at_builtin; refine El.appMany eP_ok rfl _ _ rfl w.heap.size (.slice (some ⟨w.heap.size, 0, none⟩) 0 0) [] rfl HO.out ad n c xs rfl (HA.out.keep B0.out) (by simp; omega) B0.out.size ?_; intro v3 w3 ho3 hb3 _; have HO3 := Lib.hid ho3; have HB3 := Lib.hid (B0.out.trans hb3); clear ho3 hb3)
    exact bodyPost_ret (results_tmp rfl _ _ _) rfl ⟨v3, rfl, by simpa using HO3.out, HB3.out⟩
/-- slices.Clone. -/
theorem cloneL_c (A : Option Addr) (n c : Nat) (xs : List La) (hn : n ≤ 1000000) (w : World) (hA : SlOf La.cs 3 w A n xs) : Calls Tryz.prog 174 #[.slice A n c] w (Gives eL w xs) := by
  have qT : ∀ (w : World) (a : Option Addr) (n c n' c' : Nat), (binOp .eql 23 (.slice a n c) (.slice none n' c')).run Tryz.prog w = .ok (.bool a.isNone) w := fun w a n c n' c' => Lib.run_eql_slice_nil w _ _ a n c n' c' Tryz.underlying23
  rcases A with _ | ad
  · have hn0 : n = 0 := by
      rcases Nat.eq_zero_or_pos n with h | h
      · exact h
      · obtain ⟨_, _, e⟩ := hA.addr h; cases e
    have hx0 : xs = [] := List.eq_nil_of_length_eq_zero (by rw [hA.1, hn0])
    subst hx0
    clear hA
    go_enter Tryz.func174, Tryz.ntmps174
    go_wp2
    exact bodyPost_ret (results_tmp rfl _ _ _) rfl ⟨_, rfl, Own.nil eL _ _, Below.refl _ _⟩
  · have HA := Lib.hid hA; have HN := Lib.hid hA.1
    have B0 := Lib.hid (newB (Below.refl w.heap.size w) (.cells #[] 44))
    have HO := Lib.hid (show Own eL w.heap.size (.slice (some ⟨w.heap.size, 0, none⟩) 0 0) [] (w.alloc (.cells #[] 44)) from Own.of_has (n := 0) eL_ok (Has.new w 44 #[]) (Nat.le_refl _) rfl rfl rfl (by unfold maxLen; omega))
    clear hA
    go_enter Tryz.func174, Tryz.ntmps174
    go_wp2_with (at_builtin; refine El.appMany eL_ok rfl _ _ rfl w.heap.size (.slice (some ⟨w.heap.size, 0, none⟩) 0 0) [] rfl HO.out ad n c xs rfl (HA.out.keep B0.out) (by simp; omega) B0.out.size ?_; intro v3 w3 ho3 hb3 _; have HO3 := Lib.hid ho3; have HB3 := Lib.hid (B0.out.trans hb3); clear ho3 hb3)
    exact bodyPost_ret (results_tmp rfl _ _ _) rfl ⟨v3, rfl, by simpa using HO3.out, HB3.out⟩
end Go.Proofs
namespace Go.Proofs
open Go.RowKit Go.Shelf
attribute [local go_sem ↓] Go.wp_at_zero Go.wp_at_succ

section
variable {P : Program} {w : World}
/-- Where a row lies that was appended to: where it lay, or in a new block. -/
theorem append_block (base : Nat) (t ty e : TypeId) (i : TypeInfo) (z : Value) (size bytes : Nat) (ht : P.underlying t = some (.slice e)) (hi : P.info? e = some i) (hz : i.zero = some z)
    (hsize : i.size = size) (hby : i.bytes = bytes) (v : Value) (n : Nat) (xs : List Value) (hown : w.ownsRow base e size v n xs)
    (a : Addr) (m c : Nat) (hm : 0 < m) (news : List Value) (hl : news.length = m * size) (hnews : ∀ j u, news[j]? = some u → w.cell? (a.add j) = some u) (h1 : ∀ u ∈ news, u.oneCell' = true)
    (h63 : n + m ≤ maxLen) (hbytes : (n + m) * bytes ≤ 140737488355328) {v' : Value} {w' : World} (hr : (Builtin.append_ #[t, t] ty #[v, .slice (some a) m c]).run P w = .ok v' w') :
    v'.ownBlock = v.ownBlock ∨ v'.ownBlock = some w.heap.size := by
  subst hsize
  subst hby
  have hsmall : n + m ≤ 9223372036854775807 := by simp only [maxLen] at h63; omega
  rcases hown.2 with ⟨rfl, rfl⟩ | ⟨g, cap, cur, rfl, hbg, hg, hnc, hcm, hcs, htake⟩
  · have h2 := run_append_nil (P := P) w t ty e i z ht hi hz a m c news hl hnews hm (by omega) (by have hb := hbytes; simp only [Nat.zero_add] at hb; omega)
    rw [hr] at h2; cases h2; right; rfl
  · by_cases hroom : n + m ≤ cap
    · have hfit : n * i.size + news.length ≤ cur.size := by rw [hl, hcs, ← Nat.add_mul]; exact Nat.mul_le_mul_right _ hroom
      have h2 := run_append_room (P := P) w t ty e i ht hi g n cap cur hg a m c news hl hnews h1 hroom hfit
      rw [hr] at h2; cases h2; left; rfl
    · have holds : ∀ j u, xs[j]? = some u → w.cell? ((⟨g, 0, none⟩ : Addr).add j) = some u := hown.cells (g := g) rfl
      have h2 := run_append_grow (P := P) w t ty e i z ht hi hz ⟨g, 0, none⟩ n cap xs hown.1 holds a m c news hl hnews (by omega) (by omega) (growslice_fits (by omega) hbytes)
      rw [hr] at h2; cases h2; right; rfl
end

section
variable {α β : Type} {e : El α} {base : Nat} {v : Value} {xs : List α} {w w' : World}
theorem El.app1F (hk : e.Ok) {ops : Array Oper} {rest : List Oper} {o : Oper} {a : Act} {Q : Exit → Act → World → Prop} (hgd : o.guard = none) (s x : Operand)
    (ho : o.op = .call { callee := .builtin .append, args := #[s, x], argTypes := #[e.T, e.T] })
    (base : Nat) (v : Value) (xs : List α) (hs : a.eval s = v) (hown : Own e base v xs w) (hlen : xs.length ≤ 20000000)
    (b : Nat) (y : α) (hx : a.eval x = .slice (some ⟨b, 0, none⟩) 1 1) (hb : Has w b e.E (e.f y).toArray) (hbase : base ≤ w.heap.size)
    (h : ∀ v' w', Own e base v' (xs ++ [y]) w' → Below base w w' → w.grownBy w' v.ownBlock → (v'.ownBlock = v.ownBlock ∨ v'.ownBlock = some w.heap.size) → wpList Tryz.prog ops Q rest (a.put o.dst v') w') : wpList Tryz.prog ops Q (o :: rest) a w := by
  obtain ⟨i, hi, hz, hby, hsz⟩ := hk.inf
  have h1000 := hk.small
  have hn : ∀ j u, (e.f y)[j]? = some u → w.cell? ((⟨b, 0, none⟩ : Addr).add j) = some u := by
    intro j u hu
    have hadd : (⟨b, 0, none⟩ : Addr).add j = ⟨b, j, none⟩ := by unfold Addr.add; split <;> simp_all
    rw [hadd, hb.cell j]
    simpa using hu
  have hby2 : (xs.length + 1) * e.by' ≤ 140737488355328 := by have := Nat.mul_le_mul (show xs.length + 1 ≤ 20000001 by omega) h1000; omega
  obtain ⟨v', w', hr, e1, e2, _⟩ := run_append_own (P := Tryz.prog) w base e.T o.type e.E i _ e.sz e.by' hk.und hi hz hsz hby hk.zc hk.pos v xs.length _ hown ⟨b, 0, none⟩ 1 1 (e.f y) (by rw [hk.len]; omega) hn (hk.one y) (by unfold maxLen; omega) hby2 hbase
  have e3 := append_block (P := Tryz.prog) (w := w) base e.T o.type e.E i _ e.sz e.by' hk.und hi hz hsz hby v xs.length _ hown ⟨b, 0, none⟩ 1 1 (by omega) (e.f y) (by rw [hk.len]; omega) hn (hk.one y) (by unfold maxLen; omega) hby2 hr
  refine wpList_plain hgd fun K hK => ?_
  unfold Oper.wp execOp
  simp only [ho, resolve, invoke, builtin, Sem.run_bind, Sem.run_pure, Result.andThen_ok, List.map_toArray, List.map_cons, List.map_nil, hs, hx, hr]
  exact hK _ _ (h v' w' (by unfold Own; rw [flat_append]; simpa [flat] using e1) (below_grown e2 (fun r hr => (hown.lt r hr).1) hbase) e2 e3)
/-- What lies elsewhere stays. -/
theorem Own.apart {e' : El β} {b' : Nat} {u : Value} {ys : List β} {row : Option Nat} (h : Own e' b' u ys w) (hg : w.grownBy w' row) (hne : u.ownBlock = none ∨ u.ownBlock ≠ row) : Own e' b' u ys w' := World.ownsRow.kept h hg hne
end

def blk (A : Option Addr) : Option Nat := A.map (·.block)
/-- Two rows do not lie in one block. -/
def Far (A C : Option Addr) : Prop := blk A = none ∨ blk A ≠ blk C
theorem Far.symm {A C : Option Addr} (h : Far A C) : Far C A := by
  unfold Far at *
  cases hc : blk C with
  | none => exact .inl rfl
  | some c =>
    right
    intro e
    rcases h with h | h
    · rw [h] at e; cases e
    · exact h (by rw [hc, e])
theorem own_blk (A : Option Addr) (n c : Nat) : (Value.slice A n c).ownBlock = blk A := by cases A <;> rfl
/-- A book that was made here: nothing of it lies where something else of it lies. -/
structure BOwn (B : Nat) (m : Bm) (w : World) : Prop where
  hs : Own eS B (.slice m.R m.rn m.rc) m.ss w
  len : m.ss.length = m.b.rows.length
  rows : ∀ (j : Nat) (s : Sl3) (xs : List Int), m.ss[j]? = some s → m.b.rows[j]? = some xs → s.2.1 = xs.length ∧ Own eI B (.slice s.1 s.2.1 s.2.2) xs w
  ac : m.an = m.b.ac.length ∧ Own eI B (.slice m.A m.an m.ac) m.b.ac w
  dn : m.dn = m.b.dn.length ∧ Own eI B (.slice m.D m.dn m.dc) m.b.dn w
  rlen : m.rn = m.ss.length
  fAD : Far m.A m.D
  fR : ∀ s ∈ m.ss, Far s.1 m.A ∧ Far s.1 m.D
  fRR : ∀ (i j : Nat) (s t : Sl3), i ≠ j → m.ss[i]? = some s → m.ss[j]? = some t → Far s.1 t.1
theorem Own.toSl {B n c : Nat} {A : Option Addr} {xs : List Int} {w : World} (h : Own eI B (.slice A n c) xs w) (hn : n = xs.length) : SlOf inC 1 w A n xs := by
  obtain ⟨A', c', e1, h1, _⟩ := h.sl
  simp only [Value.slice.injEq] at e1
  obtain ⟨rfl, _, _⟩ := e1
  rw [hn]; exact h1
theorem BOwn.keep {B : Nat} {m : Bm} {w w' : World} (h : BOwn B m w) (hb : Below w.heap.size w w') : BOwn B m w' :=
  ⟨h.hs.keep hb, h.len, fun j s xs h1 h2 => ⟨(h.rows j s xs h1 h2).1, (h.rows j s xs h1 h2).2.keep hb⟩, ⟨h.ac.1, h.ac.2.keep hb⟩, ⟨h.dn.1, h.dn.2.keep hb⟩, h.rlen, h.fAD, h.fR, h.fRR⟩
theorem BOwn.lower {B B' : Nat} {m : Bm} {w : World} (h : BOwn B m w) (hb : B' ≤ B) : BOwn B' m w :=
  ⟨h.hs.lower hb, h.len, fun j s xs h1 h2 => ⟨(h.rows j s xs h1 h2).1, (h.rows j s xs h1 h2).2.lower hb⟩, ⟨h.ac.1, h.ac.2.lower hb⟩, ⟨h.dn.1, h.dn.2.lower hb⟩, h.rlen, h.fAD, h.fR, h.fRR⟩
theorem BOwn.toIn {B : Nat} {m : Bm} {w : World} (h : BOwn B m w) : m.In w := by
  refine ⟨?_, ⟨h.len, fun j s xs h1 h2 => (h.rows j s xs h1 h2).2.toSl (h.rows j s xs h1 h2).1⟩, h.ac.2.toSl h.ac.1, h.dn.2.toSl h.dn.1⟩
  obtain ⟨A', c', e1, h1, _⟩ := h.hs.sl
  simp only [Value.slice.injEq] at e1
  obtain ⟨rfl, _, _⟩ := e1
  rw [h.rlen]; exact h1
end Go.Proofs
namespace Go.Proofs
open Go.RowKit Go.Shelf

theorem results_row_tmp {P : Program} {fn : Func} {p u : Tmp} {ty : TypeId} (h : fn.results = #[.cell p ty, .tmp u]) (tmps : Array Value) (w : World) (g : Nat) (t : TypeId) (cs : Array Value) (fr : Nat × Nat) (d : TypeDesc)
    (hp : tmps.getD p undef = .pointer (some ⟨g, 0, none⟩)) (hg : w.heap[g]? = some (.cells cs t fr))
    (hu : P.underlying ty = some d) (hd : (match d with | .struct _ | .array _ _ => true | _ => false) = true) (hi : (P.info? ty).map (·.size) = some cs.size) :
    (results fn tmps).run P w = .ok (.tuple #[.agg cs, tmps.getD u undef]) w := by
  have hp' : tmps[p]?.getD undef = .pointer (some ⟨g, 0, none⟩) := by simpa using hp
  simp [results, h, hp', asAddr, run_loadVar_row w g t ty cs fr d hg hu hd hi]
theorem Own.setFar {α : Type} {e : El α} {B : Nat} {u : Value} {xs : List α} {w : World} (h : Own e B u xs w) {g i : Nat} {t : TypeId} {cs : Array Value} (hg : Has w g t cs) (ht : t ≠ e.E) (x : Value) : Own e B u xs (w.setCell ⟨g, i, none⟩ x) := by
  refine ⟨h.1, ?_⟩
  rcases h.2 with h1 | ⟨g', cap, cur, e1, e2, e3, e4⟩
  · exact .inl h1
  · refine .inr ⟨g', cap, cur, e1, e2, ?_, e4⟩
    have hne : g' ≠ g := by
      rintro rfl
      unfold Has at hg
      rw [e3] at hg; cases hg; exact ht rfl
    exact (Below.heap_setCell w ⟨g, i, none⟩ x g' hne).trans e3
theorem BOwn.setBox {B : Nat} {m : Bm} {w : World} (h : BOwn B m w) {g i : Nat} {t : TypeId} {cs : Array Value} (hg : Has w g t cs) (h1 : t ≠ 30) (h2 : t ≠ 3) (x : Value) : BOwn B m (w.setCell ⟨g, i, none⟩ x) :=
  ⟨h.hs.setFar hg h1 x, h.len, fun j s xs a b => ⟨(h.rows j s xs a b).1, (h.rows j s xs a b).2.setFar hg h2 x⟩, ⟨h.ac.1, h.ac.2.setFar hg h2 x⟩, ⟨h.dn.1, h.dn.2.setFar hg h2 x⟩, h.rlen, h.fAD, h.fR, h.fRR⟩
theorem Own.setRowFar {α : Type} {e : El α} {B : Nat} {u : Value} {xs : List α} {w : World} (h : Own e B u xs w) {g : Nat} {t : TypeId} {cs : Array Value} (hg : Has w g t cs) (ht : t ≠ e.E) (x : Array Value) : Own e B u xs (w.setRow g x) := by
  refine ⟨h.1, ?_⟩
  rcases h.2 with h1 | ⟨g', cap, cur, e1, e2, e3, e4⟩
  · exact .inl h1
  · refine .inr ⟨g', cap, cur, e1, e2, ?_, e4⟩
    have hne : g' ≠ g := by
      rintro rfl
      unfold Has at hg
      rw [e3] at hg; cases hg; exact ht rfl
    exact (setRow_other w g g' x hne).trans e3
theorem BOwn.setRowBox {B : Nat} {m : Bm} {w : World} (h : BOwn B m w) {g : Nat} {t : TypeId} {cs : Array Value} (hg : Has w g t cs) (h1 : t ≠ 30) (h2 : t ≠ 3) (x : Array Value) : BOwn B m (w.setRow g x) :=
  ⟨h.hs.setRowFar hg h1 x, h.len, fun j s xs a b => ⟨(h.rows j s xs a b).1, (h.rows j s xs a b).2.setRowFar hg h2 x⟩, ⟨h.ac.1, h.ac.2.setRowFar hg h2 x⟩, ⟨h.dn.1, h.dn.2.setRowFar hg h2 x⟩, h.rlen, h.fAD, h.fR, h.fRR⟩
theorem BOwn.withAll {B rn rc an ac dn dc : Nat} {R A D : Option Addr} {ss : List Sl3} {rows : List (List Int)} {acr dnr : List Int} {all : Int} (all' : Int) {w : World} (h : BOwn B ⟨R, A, D, rn, rc, an, ac, dn, dc, ss, ⟨rows, acr, dnr, all⟩⟩ w) :
    BOwn B ⟨R, A, D, rn, rc, an, ac, dn, dc, ss, ⟨rows, acr, dnr, all'⟩⟩ w := ⟨h.hs, h.len, h.rows, h.ac, h.dn, h.rlen, h.fAD, h.fR, h.fRR⟩
theorem own_lt {B n c : Nat} {A : Option Addr} {xs : List Int} {w : World} (h : Own eI B (.slice A n c) xs w) : ∀ k, blk A = some k → B ≤ k ∧ k < w.heap.size := fun k hk => World.ownsRow.lt h k (by rw [own_blk]; exact hk)
/-- What lies above L is far from what lay below. -/
theorem far_fresh {A C : Option Addr} {L : Nat} (hA : ∀ k, blk A = some k → L ≤ k) (hC : ∀ k, blk C = some k → k < L) : Far A C := by
  unfold Far
  cases ha : blk A with
  | none => exact .inl rfl
  | some a =>
    right
    intro e
    have := hA a ha
    have := hC a e.symm
    omega
theorem BOwn.addRow {B rn rc an ac dn dc rc' n cr L : Nat} {R A D R' Ar : Option Addr} {ss : List Sl3} {rows : List (List Int)} {acr dnr xs : List Int} {all : Int} {w w' : World}
    (h : BOwn B ⟨R, A, D, rn, rc, an, ac, dn, dc, ss, ⟨rows, acr, dnr, all⟩⟩ w) (hs : Own eS B (.slice R' (rn + 1) rc') (ss ++ [(Ar, n, cr)]) w') (hsp : Spares w w' 30) (hn : n = xs.length) (hr : Own eI B (.slice Ar n cr) xs w)
    (hfr : ∀ k, blk Ar = some k → L ≤ k) (hold : ∀ (j : Nat) (s : Sl3), ss[j]? = some s → ∀ k, blk s.1 = some k → k < L) (hA : ∀ k, blk A = some k → k < L) (hD : ∀ k, blk D = some k → k < L) :
    BOwn B ⟨R', A, D, rn + 1, rc', an, ac, dn, dc, ss ++ [(Ar, n, cr)], ⟨rows ++ [xs], acr, dnr, all⟩⟩ w' := by
  have hl := h.len
  have hrl := h.rlen
  simp only at hl hrl
  refine ⟨hs, by simp [hl], ?_, ⟨h.ac.1, hsp.owns h.ac.2 (by decide)⟩, ⟨h.dn.1, hsp.owns h.dn.2 (by decide)⟩, by simp [hrl], h.fAD, ?_, ?_⟩
  · intro j s ys h1 h2
    simp only at h1 h2
    by_cases hj : j < ss.length
    · rw [List.getElem?_append_left hj] at h1
      rw [List.getElem?_append_left (by omega)] at h2
      have := h.rows j s ys h1 h2
      exact ⟨this.1, hsp.owns this.2 (by decide)⟩
    · rw [List.getElem?_append_right (by omega)] at h1
      rw [List.getElem?_append_right (by omega)] at h2
      have e0 : j - ss.length = 0 := by have := (List.getElem?_eq_some_iff.1 h1).1; simp at this; omega
      rw [e0] at h1
      rw [← hl, e0] at h2
      simp at h1 h2
      subst h1; subst h2
      exact ⟨hn, hsp.owns hr (by decide)⟩
  · intro s hs
    rcases List.mem_append.1 hs with hs | hs
    · exact h.fR s hs
    · simp at hs; subst hs
      exact ⟨far_fresh hfr hA, far_fresh hfr hD⟩
  · intro i j s t hij h1 h2
    simp only at h1 h2
    by_cases hi : i < ss.length
    · rw [List.getElem?_append_left hi] at h1
      by_cases hj : j < ss.length
      · rw [List.getElem?_append_left hj] at h2
        exact h.fRR i j s t hij h1 h2
      · rw [List.getElem?_append_right (by omega)] at h2
        have e0 : j - ss.length = 0 := by have := (List.getElem?_eq_some_iff.1 h2).1; simp at this; omega
        rw [e0] at h2; simp at h2; subst h2
        exact (far_fresh hfr (hold i s h1)).symm
    · rw [List.getElem?_append_right (by omega)] at h1
      have e0 : i - ss.length = 0 := by have := (List.getElem?_eq_some_iff.1 h1).1; simp at this; omega
      rw [e0] at h1; simp at h1; subst h1
      by_cases hj : j < ss.length
      · rw [List.getElem?_append_left hj] at h2
        exact far_fresh hfr (hold j t h2)
      · have := (List.getElem?_eq_some_iff.1 h2).1
        simp at this; omega
theorem BOwn.addAc {B rn rc an ac dn dc ac' : Nat} {R A D A' : Option Addr} {ss : List Sl3} {rows : List (List Int)} {acr dnr : List Int} {x all : Int} {w w' : World}
    (h : BOwn B ⟨R, A, D, rn, rc, an, ac, dn, dc, ss, ⟨rows, acr, dnr, all⟩⟩ w) (ha : Own eI B (.slice A' (an + 1) ac') (acr ++ [x]) w') (hg : w.grownBy w' (blk A)) (hsp : Spares w w' 3) (hb : blk A' = blk A ∨ blk A' = some w.heap.size) :
    BOwn B ⟨R, A', D, rn, rc, an + 1, ac', dn, dc, ss, ⟨rows, acr ++ [x], dnr, all⟩⟩ w' := by
  have hfar : ∀ (C : Option Addr), Far C A → (∀ k, blk C = some k → k < w.heap.size) → Far C A' := by
    intro C hf hlt
    unfold Far at *
    rcases hf with hf | hf
    · exact .inl hf
    · rcases hb with hb | hb
      · exact .inr (by rw [hb]; exact hf)
      · right
        rw [hb]
        intro e
        have := hlt _ e
        omega
  have hrow : ∀ s ∈ ss, ∃ xs, Own eI B (.slice s.1 s.2.1 s.2.2) xs w := fun s hs => by
    obtain ⟨j, hj, e⟩ := List.getElem_of_mem hs
    have hl := h.len
    simp only at hl
    have hj2 : j < rows.length := by have hj' : j < ss.length := hj; omega
    exact ⟨_, (h.rows j s rows[j] (by rw [← e]; exact List.getElem?_eq_getElem hj) (List.getElem?_eq_getElem hj2)).2⟩
  have hane := h.ac.1
  simp only at hane
  refine ⟨hsp.owns h.hs (by decide), h.len, ?_, ⟨by simp [hane], ha⟩, ⟨h.dn.1, h.dn.2.apart hg ?_⟩, h.rlen, ?_, ?_, h.fRR⟩
  · intro j s ys h1 h2
    have := h.rows j s ys h1 h2
    refine ⟨this.1, this.2.apart hg ?_⟩
    rw [own_blk]
    exact (h.fR s (List.mem_of_getElem? h1)).1
  · rw [own_blk]
    exact h.fAD.symm
  · exact (hfar _ h.fAD.symm (fun k hk => (own_lt h.dn.2 k hk).2)).symm
  · intro s hs
    obtain ⟨xs, ho⟩ := hrow s hs
    exact ⟨hfar _ (h.fR s hs).1 (fun k hk => (own_lt ho k hk).2), (h.fR s hs).2⟩
end Go.Proofs
namespace Go.Proofs
open Go.RowKit Go.Shelf
attribute [local go_sem ↓] Go.wp_at_zero Go.wp_at_succ

def acL (ps : List Pe) (ls : List La) : List Int := ls.map fun y => sumI (rowL ps ls y)
/-- The book of a season. -/
def bookF (ps : List Pe) (ls : List La) : Bk := ⟨ls.map (rowL ps ls), acL ps ls, totL ps ls, sumI (acL ps ls)⟩
theorem Seas.rowsum {ps : List Pe} {ls : List La} (h : Seas ps ls) {y : La} (hy : y ∈ ls) : 0 ≤ sumI (rowL ps ls y) ∧ sumI (rowL ps ls y) ≤ 6 * 19110297600000 := by
  have hb : ∀ x ∈ rowL ps ls y, 0 ≤ x ∧ x ≤ 19110297600000 := fun x hx => by
    obtain ⟨k, _, rfl⟩ := List.mem_map.1 hx
    exact h.claim hy k
  have := sumI_bd (rowL ps ls y) 19110297600000 (fun x hx => by have := hb x hx; omega)
  have hl : (rowL ps ls y).length ≤ 6 := by have := h.six; simp [rowL]; omega
  exact ⟨sumI_nonneg _ (fun x hx => (hb x hx).1), by omega⟩
set_option maxHeartbeats 4000000 in
set_option maxRecDepth 20000 in
theorem book_ok (s : Sv) (hs : Seas s.ps s.ls) (w : World) (hi : s.In w) :
    Calls Tryz.prog 59 #[s.val] w fun e w' => ∃ m : Bm, e = .returned (.tuple #[m.val, .int .i64 0]) ∧ m.b = bookF s.ps s.ls ∧ BOwn w.heap.size m w' ∧ Below w.heap.size w w' := by
  have hp6 : s.pn ≤ 6 := by rw [← hi.ps.1]; exact hs.six
  have hl6 : s.ln ≤ 6 := by rw [← hi.ls.1]; exact hs.few
  have HLN := Lib.hid hi.ls.1
  have HC := Lib.hid fun (w' : World) (hb : Below w.heap.size w w') => check_c s (by omega) (by omega) w' (hi.keep hb)
  have HS := Lib.hid fun (w' : World) (hb : Below w.heap.size w w') => settle_c s hs w' (hi.keep hb)
  have HT := Lib.hid fun (w' : World) (hb : Below w.heap.size w w') (b : Nat) (hm : MapAt w' b (clF s.ps s.ls)) => (show Calls Tryz.prog 81 #[s.set (denF s.ps s.ls) (.map (some b))] w' (Gives eI w' (totL s.ps s.ls)) from by
    have := totals_c s hs b w' (hi.keep hb) hm; rw [← hi.ps.1] at this; exact this)
  have HRw := Lib.hid fun (w' : World) (hb : Below w.heap.size w w') (b : Nat) (hm : MapAt w' b (clF s.ps s.ls)) (l : Nat) (y : La) (hy : s.ls[l]? = some y) => (show Calls Tryz.prog 108 #[s.set (denF s.ps s.ls) (.map (some b)), .int .i64 l] w' (Gives eI w' (rowL s.ps s.ls y)) from by
    have := row_c s (denF s.ps s.ls) b l (clF s.ps s.ls) (by omega) w' hm
    rw [← hi.ps.1, rowL_eq hy] at this; exact this)
  have HSe := Lib.hid hs
  have HRl := Lib.hid fun y => (show (rowL s.ps s.ls y).length = s.pn by simp [rowL, hi.ps.1])
  have HTl := Lib.hid (show (totL s.ps s.ls).length = s.pn by simp [totL, hi.ps.1])
  rw [(seas_iff _ _).2 hs] at HC
  obtain ⟨pA, lA, pn, pc, ln, lc, ps, ls⟩ := s
  replace HS := Lib.hid (show ∀ (w' : World), Below w.heap.size w w' → Calls Tryz.prog 80 #[.agg #[.slice pA pn pc, .slice lA ln lc]] w' fun e w'' => ∃ g, e = .returned (.agg #[.slice pA pn pc, .slice lA ln lc, .int .i64 (denF ps ls), .map (some g)]) ∧ MapAt w'' g (clF ps ls) ∧ Below w'.heap.size w' w'' from HS.out)
  simp only [Sv.val, Sv.set] at *
  clear hi hs
  obtain ⟨d, hd⟩ : ∃ d, d = denF ps ls := ⟨_, rfl⟩
  rw [← hd] at HS HT HRw
  clear hd
  have F0 := Lib.hid ((Has.new w 25 #[.slice pA pn pc, .slice lA ln lc]).alloc (.cells #[.slice none 0 0, .slice none 0 0, .slice none 0 0, .int .i64 0] 80))
  have F2 := Lib.hid (Has.new' (w.alloc (.cells #[.slice pA pn pc, .slice lA ln lc] 25)) 80 #[.slice none 0 0, .slice none 0 0, .slice none 0 0, .int .i64 0] (g := w.heap.size + 1) (by simp))
  have B0 := Lib.hid (newB (newB (Below.refl w.heap.size w) (.cells #[.slice pA pn pc, .slice lA ln lc] 25)) (.cells #[.slice none 0 0, .slice none 0 0, .slice none 0 0, .int .i64 0] 80))
  go_enter Tryz.func59, Tryz.ntmps59
  go_wp2_with (first
    | (go_at_call 25; refine (HC.out _ B0.out).mono ?_; rintro e w1 ⟨rfl, hb1⟩; rw [show errI true = 0 from rfl]; have HB1 := Lib.hid (nextB B0.out hb1); have HF1 := Lib.hid (F0.out.after hb1); have HG1 := Lib.hid (F2.out.after hb1); clear hb1)
    | (refine wpList_load_row rfl 25 _ rfl w.heap.size rfl 25 _ (0, 0) _ HF1.out Tryz.underlying25 rfl (by kernel_rfl) ?_)
    | (go_at_call 80; refine (HS.out _ HB1.out).mono ?_; rintro e w2 ⟨g, rfl, hm, hb2⟩; have HB2 := Lib.hid (nextB HB1.out hb2); have HM2 := Lib.hid hm; have HG2 := Lib.hid (HG1.out.after hb2); have HX5 := Lib.hid (Has.new w2 113 #[.slice pA pn pc, .slice lA ln lc, .int .i64 d, .map (some g)]); have BX5 := Lib.hid (newB (Below.refl w2.heap.size w2) (.cells #[.slice pA pn pc, .slice lA ln lc, .int .i64 d, .map (some g)] 113)); clear hb2 hm)
    | (refine wpList_load_row rfl 113 _ rfl w2.heap.size rfl 113 _ (0, 0) _ HX5.out Tryz.underlying113 rfl (by kernel_rfl) ?_)
    | (go_at_call 81; refine (HT.out _ (nextB HB2.out BX5.out) g (HM2.out.keep BX5.out)).mono ?_; rintro e w3 ⟨v, rfl, ho, hb3⟩; obtain ⟨D, dc, rfl, hsl, _⟩ := Own.sl ho; have HD := Lib.hid ho; have HB3 := Lib.hid (nextB (nextB HB2.out BX5.out) hb3); have HX53 := Lib.hid (HX5.out.after hb3); have c53 := (HX5.out.after hb3).cell; have z53 := (HX5.out.after hb3).lt; have HG3 := Lib.hid ((HG2.out.after BX5.out).after hb3); have HM3 := Lib.hid ((HM2.out.keep BX5.out).keep hb3); clear ho hsl hb3))
  have BO0 := Lib.hid (show BOwn w.heap.size ⟨none, none, D, 0, 0, 0, 0, (totL ps ls).length, dc, [], ⟨[], [], totL ps ls, 0⟩⟩ w3 from
    ⟨Own.nil eS _ _, rfl, fun j s xs h => by simp at h, ⟨rfl, Own.nil eI _ _⟩, ⟨rfl, HD.out.lower (nextB HB2.out BX5.out).size⟩, rfl, .inl rfl, fun s h => by simp at h, fun i j s t _ h => by simp at h⟩)
  have HX6 := Lib.hid (Has.new w3 80 #[.slice none 0 0, .slice none 0 0, .slice D (totL ps ls).length dc, .int .i64 0])
  have BX6 := Lib.hid (newB (Below.refl w3.heap.size w3) (.cells #[.slice none 0 0, .slice none 0 0, .slice D (totL ps ls).length dc, .int .i64 0] 80))
  have hz3 := HB3.out.size
  have hz2 := HB2.out.size
  generalize w3.alloc (.cells #[.slice none 0 0, .slice none 0 0, .slice D (totL ps ls).length dc, .int .i64 0] 80) = W0 at *
  clear c53
  go_loopw [24] (fun v wr => ∃ (k : Nat) (R A : Option Addr) (rc ac : Nat) (ss : List Sl3), k ≤ ln ∧ v = .int .i64 k ∧ Below w.heap.size w wr ∧ Has wr w2.heap.size 113 #[.slice pA pn pc, .slice lA ln lc, .int .i64 d, .map (some g)] ∧ MapAt wr g (clF ps ls) ∧ Has wr (w.heap.size + 1) 80 #[.slice none 0 0, .slice none 0 0, .slice none 0 0, .int .i64 0] ∧
      Has wr w3.heap.size 80 #[.slice R k rc, .slice A k ac, .slice D (totL ps ls).length dc, .int .i64 0] ∧ BOwn w.heap.size ⟨R, A, D, k, rc, k, ac, (totL ps ls).length, dc, ss, ⟨(ls.map (rowL ps ls)).take k, (acL ps ls).take k, totL ps ls, 0⟩⟩ wr) (fun v _ => ln - (intOf v).toNat)
  case atStart => exact ⟨0, none, none, 0, 0, [], by omega, rfl, nextB HB3.out BX6.out, HX53.out.after BX6.out, HM3.out.keep BX6.out, HG3.out.after BX6.out, HX6.out, by simpa using BO0.out.keep BX6.out⟩
  case round =>
    obtain ⟨k, R, A, rc, ac, ss, hk, rfl, hB, hX, hM, hG, h6, hO⟩ := hrel
    have HB := Lib.hid hB; have HX := Lib.hid hX; have HM := Lib.hid hM; have HG := Lib.hid hG; have H6 := Lib.hid h6; have HO := Lib.hid hO
    have cx := hX.cell; have zx := hX.lt; have zg := hG.lt; have z6 := h6.lt
    have hzr := hB.size
    clear hB hX hM hG h6 hO
    by_cases hkn : k < ln
    · have hkl : k < ls.length := by rw [HLN.out]; exact hkn
      have hy := List.getElem?_eq_getElem hkl
      have hym := List.getElem_mem hkl
      have HT1 := Lib.hid (show (ls.map (rowL ps ls)).take (k + 1) = (ls.map (rowL ps ls)).take k ++ [rowL ps ls ls[k]] by
        rw [← List.take_append_getElem (show k < (ls.map (rowL ps ls)).length by simpa using hkl)]; simp)
      have HT2 := Lib.hid (show (acL ps ls).take (k + 1) = (acL ps ls).take k ++ [sumI (rowL ps ls ls[k])] by
        rw [← List.take_append_getElem (show k < (acL ps ls).length by simpa [acL] using hkl)]; simp [acL])
      obtain ⟨y, hyy⟩ : ∃ y, y = ls[k] := ⟨_, rfl⟩
      rw [← hyy] at hy hym HT1 HT2
      have HY := Lib.hid hy
      have HSm := Lib.hid fun j => HSe.out.row hym j
      have HLs := Lib.hid (show ss.length = k from HO.out.rlen.symm)
      clear hy hyy hym
      go_wp2_with (first
        | (refine wpList_load_row rfl 113 _ rfl w2.heap.size rfl 113 _ (0, 0) _ HX.out Tryz.underlying113 rfl (by kernel_rfl) ?_)
        | (go_at_call 108; refine (HRw.out _ HB.out g HM.out k y HY.out).mono ?_; rintro e w4 ⟨v4, rfl, ho, hb4⟩; obtain ⟨Ar, cr, rfl, hsl, _⟩ := Own.sl ho; rw [HRl.out] at ho hsl ⊢; have HO4 := Lib.hid ho; have HSl4 := Lib.hid hsl; have HB4 := Lib.hid (nextB HB.out hb4); have BO4 := Lib.hid (HO.out.keep hb4); have h64 := (H6.out.after hb4); have c64 := h64.cell; have z64 := h64.lt; have H64 := Lib.hid h64; have HX4 := Lib.hid (HX.out.after hb4); have HM4 := Lib.hid (HM.out.keep hb4); have HG4 := Lib.hid (HG.out.after hb4); have hz4 := hb4.size; clear ho hsl hb4 h64)
        | (at_builtin; refine El.app1 eS_ok rfl _ _ rfl w.heap.size (.slice R k rc) ss rfl (BO4.out.hs.alloc (.cells #[.slice Ar pn cr] 30)) (by have := HLs.out; omega) w4.heap.size (Ar, pn, cr) rfl (Has.new w4 30 _) (newB HB4.out _).size ?_; intro v5 w5 ho5 hb5 hsp; obtain ⟨R', rc', rfl, _, _⟩ := Own.sl ho5; have hlen5 : (ss ++ [((Ar, pn, cr) : Sl3)]).length = k + 1 := (by simp [HLs.out]); rw [hlen5] at ho5 ⊢; have HO5 := Lib.hid ho5; have HSp := Lib.hid hsp; have HB5 := Lib.hid ((newB HB4.out (.cells #[.slice Ar pn cr] 30)).trans hb5); have h65 := hsp.has (H64.out.alloc (.cells #[.slice Ar pn cr] 30)) (by decide); have c65 := h65.cell; have f65 := h65.frozen; have z65 := h65.lt; have H65 := Lib.hid h65; have HX5 := Lib.hid (hsp.has (HX4.out.alloc (.cells #[.slice Ar pn cr] 30)) (by decide)); have HG5 := Lib.hid (hsp.has (HG4.out.alloc (.cells #[.slice Ar pn cr] 30)) (by decide)); have HM5 := Lib.hid (hsp.map (HM4.out.keep (newB (Below.refl _ _) (.cells #[.slice Ar pn cr] 30)))); clear ho5 hb5 hsp hlen5 h65 c64))
      have hn63 : w3.heap.size ≠ w2.heap.size := by omega
      have hn61 : w3.heap.size ≠ w.heap.size + 1 := by have := HG3.out.lt; omega
      have BO5 := Lib.hid (BOwn.addRow (L := wr.heap.size) (BO4.out.keep (newB (Below.refl w4.heap.size w4) (.cells #[.slice Ar pn cr] 30))) HO5.out HSp.out (HRl.out y).symm ((HO4.out.lower hzr).alloc _)
        (fun k hk => (own_lt HO4.out k hk).1) (fun j s hs b hb' => by
          have hsl : j < ((ls.map (rowL ps ls)).take k).length := by have := HO.out.len; simp only at this; rw [← this]; exact (List.getElem?_eq_some_iff.1 hs).1
          exact (own_lt (HO.out.rows j s _ hs (List.getElem?_eq_getElem hsl)).2 b hb').2) (fun k hk => (own_lt HO.out.ac.2 k hk).2) (fun k hk => (own_lt HO.out.dn.2 k hk).2))
      have BO6 := Lib.hid (BO5.out.setBox (i := 0) H65.out (by decide) (by decide) (.slice R' (k + 1) rc'))
      have HB6 := Lib.hid (setB HB5.out (p := ⟨w3.heap.size, 0, none⟩) (by simpa using hz3) (.slice R' (k + 1) rc'))
      have H66 := Lib.hid (show Has (w5.setCell ⟨w3.heap.size, 0, none⟩ (.slice R' (k + 1) rc')) w3.heap.size 80 #[.slice R' (k + 1) rc', .slice A k ac, .slice D (totL ps ls).length dc, .int .i64 0] from H65.out.set 0 _)
      have HX6' := Lib.hid (HX5.out.far (p := ⟨w3.heap.size, 0, none⟩) hn63.symm (.slice R' (k + 1) rc'))
      have HG6 := Lib.hid (HG5.out.far (p := ⟨w3.heap.size, 0, none⟩) hn61.symm (.slice R' (k + 1) rc'))
      have HM6 := Lib.hid (HM5.out.far (p := ⟨w3.heap.size, 0, none⟩) (by rintro rfl; obtain ⟨es, ck, h1, _⟩ := HM5.out.ex; have := H65.out; unfold Has at this; rw [h1] at this; cases this) (.slice R' (k + 1) rc'))
      have HSl6 := Lib.hid (BO6.out.rows k (Ar, pn, cr) (rowL ps ls y) (by rw [List.getElem?_append_right (by rw [HLs.out]; exact Nat.le_refl _), HLs.out]; simp) (by
        have hl : ((ls.map (rowL ps ls)).take k).length = k := by simp; omega
        rw [List.getElem?_append_right (by rw [hl]; exact Nat.le_refl _), hl]; simp))
      generalize w5.setCell ⟨w3.heap.size, 0, none⟩ (.slice R' (k + 1) rc') = W6 at *
      clear c65 f65 z65
      have hsl6 : SlOf inC 1 W6 Ar pn (rowL ps ls y) := by
        have := HSl6.out.2.toSl HSl6.out.1
        exact this
      have HSl7 := Lib.hid hsl6
      clear hsl6
      apply wp_loose 5 [.v _, .v _, .v _, .v _, .r (fun v w' => ∃ q, v = .slice (some ⟨q, 0, none⟩) 1 1 ∧ Has w' q 3 #[.int .i64 (sumI (rowL ps ls y))])] (by kernel_rfl) (by kernel_rfl) (by kernel_rfl) (by decide) rfl
      intro K hK
      apply OblS.val rfl
      · intro w' hb _; go_simp; rfl
      apply OblS.val rfl
      · intro w' hb _; have := (H66.out.after hb).cell; go_simp; rfl
      apply OblS.val rfl
      · intro w' hb _; go_simp; rfl
      apply OblS.call (v := .int .i64 (sumI (rowL ps ls y))) 109 rfl
      · intro w' hb _; apply Exists.intro; apply And.intro; (go_simp; rfl); exact sum_c Ar pn cr (rowL ps ls y) (by omega) (fun j _ => HSm.out j) w' (HSl7.out.keep hb)
      refine OblS.run (by rintro v a b ⟨q, e, h⟩ hb; exact ⟨q, e, h.after hb⟩) (by kernel_rfl) (fun w' hb _ => ⟨_, _, (by kernel_rfl), ⟨w'.heap.size, rfl, Has.new w' 3 _⟩, newB (Below.refl _ _) _⟩) ?_
      intro v4
      apply OblS.nil
      apply hK
      intro w7 hb hH
      obtain ⟨q, rfl, hq⟩ := hH _ (List.mem_cons_self ..)
      have HQ := Lib.hid hq
      clear hH hK K hq
      simp only [Act.put, List.setIfInBounds_toArray, List.set_cons_zero, List.set_cons_succ, List.drop_succ_cons, List.drop_zero]
      have HB7 := Lib.hid (nextB HB6.out hb); have BO7 := Lib.hid (BO6.out.keep hb); have H67 := Lib.hid (H66.out.after hb); have HX7 := Lib.hid (HX6'.out.after hb); have HG7 := Lib.hid (HG6.out.after hb); have HM7 := Lib.hid (HM6.out.keep hb)
      clear hb
      have hal : ((acL ps ls).take k).length = k := by simp [acL]; omega
      have HOa := Lib.hid BO7.out.ac.2
      go_wp2_with (at_builtin; refine El.app1F eI_ok rfl _ _ rfl w.heap.size (.slice A k ac) ((acL ps ls).take k) rfl HOa.out (by omega) q (sumI (rowL ps ls y)) rfl HQ.out HB7.out.size ?_; intro v8 w8 ho8 hb8 hg8 hblk; obtain ⟨A', ac', rfl, _, _⟩ := Own.sl ho8; have hlen8 : ((acL ps ls).take k ++ [sumI (rowL ps ls y)]).length = k + 1 := (by rw [List.length_append, hal]; rfl); rw [hlen8] at ho8 hblk ⊢; have HSp8 := Lib.hid (Spares.of_grown HOa.out hg8); rw [own_blk] at hg8 hblk; rw [own_blk] at hblk; have BO8 := Lib.hid (BO7.out.addAc ho8 hg8 HSp8.out hblk); have HB8 := Lib.hid (HB7.out.trans hb8); have h68 := HSp8.out.has H67.out (by decide); have c68 := h68.cell; have f68 := h68.frozen; have z68 := h68.lt; have H68 := Lib.hid h68; have HX8 := Lib.hid (HSp8.out.has HX7.out (by decide)); have HG8 := Lib.hid (HSp8.out.has HG7.out (by decide)); have HM8 := Lib.hid (HSp8.out.map HM7.out); clear ho8 hb8 hg8 hblk hlen8 h68)
      go_roundw
      case rel => exact ⟨k + 1, R', A', rc', ac', ss ++ [(Ar, pn, cr)], by omega, by go_num, setB HB8.out (by simpa using hz3) _, HX8.out.far hn63.symm _, HM8.out.far (by rintro rfl; obtain ⟨es, ck, h1, _⟩ := HM8.out.ex; have := H68.out; unfold Has at this; rw [h1] at this; cases this) _, HG8.out.far hn61.symm _, H68.out.set 1 _, by rw [HT1.out, HT2.out]; exact BO8.out.setBox H68.out (by decide) (by decide) _⟩
      case measure => simp [intOf]; omega
    · have hkn' : k = ln := by omega
      subst hkn'
      have HE1 := Lib.hid (show (ls.map (rowL ps ls)).take k = ls.map (rowL ps ls) from List.take_of_length_le (by simp [HLN.out]))
      have HE2 := Lib.hid (show (acL ps ls).take k = acL ps ls from List.take_of_length_le (by simp [acL, HLN.out]))
      have c6 := H6.out.cell
      have f6 := H6.out.frozen
      have hn61 : w.heap.size + 1 ≠ w3.heap.size := by have := HG3.out.lt; omega
      have hsl := HO.out.toIn.ac
      simp only [HE2.out] at hsl
      have HSl := Lib.hid hsl
      have HAc := Lib.hid fun j => (show -4000000000000000000 ≤ sumI ((acL ps ls).take j) ∧ sumI ((acL ps ls).take j) ≤ 4000000000000000000 from by
        have := sumI_bd ((acL ps ls).take j) 200000000000000 (fun x hx => by
          obtain ⟨y, hy, rfl⟩ := List.mem_map.1 (List.mem_of_mem_take hx)
          have := HSe.out.rowsum hy; omega)
        have hl : ((acL ps ls).take j).length ≤ 6 := by have := HLN.out; simp [acL]; omega
        omega)
      clear hsl
      go_wp2_with (first
        | (go_at_call 109; refine (sum_c A k ac (acL ps ls) (by omega) (fun j _ => HAc.out j) _ HSl.out).mono ?_; rintro e w4 ⟨rfl, hb4⟩; have HB4 := Lib.hid (nextB HB.out hb4); have BO4 := Lib.hid (HO.out.keep hb4); have h64 := H6.out.after hb4; have c64 := h64.cell; have f64 := h64.frozen; have z64 := h64.lt; have H64 := Lib.hid h64; have HG4 := Lib.hid (HG.out.after hb4); have H65 := Lib.hid (h64.set 3 (.int .i64 (sumI (acL ps ls)))); have HG5 := Lib.hid ((HG.out.after hb4).far (p := ⟨w3.heap.size, 3, none⟩) hn61 (.int .i64 (sumI (acL ps ls)))); clear hb4 h64 c6 f6)
        | (refine wpList_load_row rfl 80 _ rfl w3.heap.size rfl 80 _ (0, 0) _ H65.out Tryz.underlying80 rfl (by kernel_rfl) ?_)
        | (refine wpList_store_all rfl 80 _ _ rfl (w.heap.size + 1) rfl _ rfl 80 _ HG5.out (by kernel_rfl) rfl (by simp [Value.oneCell']) ?_))
      refine bodyPost_ret (results_row_tmp rfl _ _ (w.heap.size + 1) 80 _ (0, 0) _ rfl (HG5.out.setRow _) Tryz.underlying80 rfl (by kernel_rfl)) rfl ⟨⟨R, A, D, k, rc, k, ac, (totL ps ls).length, dc, ss, bookF ps ls⟩, rfl, rfl, ?_, rowB (setB HB4.out (by simpa using hz3) _) (by omega) _⟩
      have h1 := (BO4.out.setBox (i := 3) H64.out (by decide) (by decide) (.int .i64 (sumI (acL ps ls)))).setRowBox HG5.out (by decide) (by decide) #[.slice R k rc, .slice A k ac, .slice D (totL ps ls).length dc, .int .i64 (sumI (acL ps ls))]
      rw [HE1.out, HE2.out] at h1
      exact h1.withAll (sumI (acL ps ls))
end Go.Proofs
namespace Go.Proofs
open Go.RowKit Go.Shelf
attribute [local go_sem ↓] Go.wp_at_zero Go.wp_at_succ

theorem book_no (s : Sv) (hpn : s.pn ≤ 1000000) (hln : s.ln ≤ 1000000) (hs : seasonB s.ps s.ls = false) (w : World) (hi : s.In w) :
    Calls Tryz.prog 59 #[s.val] w fun e w' => e = .returned (.tuple #[.agg #[.slice none 0 0, .slice none 0 0, .slice none 0 0, .int .i64 0], .int .i64 2]) ∧ Below w.heap.size w w' := by
  have HC := Lib.hid fun (w' : World) (hb : Below w.heap.size w w') => check_c s hpn hln w' (hi.keep hb)
  obtain ⟨pA, lA, pn, pc, ln, lc, ps, ls⟩ := s
  simp only [Sv.val] at *
  rw [hs] at HC
  clear hi hs
  have F2 := Lib.hid (Has.new' (w.alloc (.cells #[.slice pA pn pc, .slice lA ln lc] 25)) 80 #[.slice none 0 0, .slice none 0 0, .slice none 0 0, .int .i64 0] (g := w.heap.size + 1) (by simp))
  have B0 := Lib.hid (newB (newB (Below.refl w.heap.size w) (.cells #[.slice pA pn pc, .slice lA ln lc] 25)) (.cells #[.slice none 0 0, .slice none 0 0, .slice none 0 0, .int .i64 0] 80))
  go_enter Tryz.func59, Tryz.ntmps59
  go_wp2_with (first
    | (go_at_call 25; refine (HC.out _ B0.out).mono ?_; rintro e w1 ⟨rfl, hb1⟩; rw [show errI false = 2 from rfl]; have HB1 := Lib.hid (nextB B0.out hb1); have F21 := Lib.hid (F2.out.after hb1); clear hb1)
    | (refine wpList_store_all rfl 80 _ _ rfl (w.heap.size + 1) rfl _ rfl 80 _ F21.out (by kernel_rfl) rfl (by simp [Value.oneCell']) ?_))
  exact bodyPost_ret (results_row_tmp rfl _ _ (w.heap.size + 1) 80 _ (0, 0) _ rfl (F21.out.setRow _) Tryz.underlying80 rfl (by kernel_rfl)) rfl ⟨rfl, rowB HB1.out (by omega) _⟩

end Go.Proofs
