/-
  Contracts of Closes and Mend hold at every book of moderate size.
-/
import Derived.Test.YtplhaohcmhepbaaGreatDoorP5
import Derived.Scope
namespace Go.Proofs
open Go.RowKit Go.Shelf
attribute [local go_sem ↓] Go.wp_at_zero Go.wp_at_succ

/-- A fix: where, row, column, number. -/
structure Fx where
  (h r c v : Int)
deriving DecidableEq
def Fx.cs (s : Fx) : List Value := [.int .i64 s.h, .int .i64 s.r, .int .i64 s.c, .int .i64 s.v]
theorem Fx.cs_len (s : Fx) : s.cs.length = 4 := rfl
theorem Fx.cs_one (s : Fx) : ∀ u ∈ s.cs, u.oneCell' = true := by simp [Fx.cs, Value.oneCell']
def eF : El Fx := ⟨Fx.cs, 4, 171, 90, 32, .agg #[.int .i64 0, .int .i64 0, .int .i64 0, .int .i64 0]⟩
theorem eF_ok : eF.Ok := ⟨Fx.cs_len, Fx.cs_one, by kernel_rfl, inf_of (by kernel_rfl) (by kernel_rfl) (by kernel_rfl) (by kernel_rfl), rfl, by decide, by decide⟩

def acrossF (b : Bk) (i : Nat) : Fx := ⟨2, i, 0, sumI (b.rows.getD i [])⟩
def acrossL (b : Bk) : List Fx := (List.range b.rows.length).map (acrossF b)
def downF (b : Bk) (i : Nat) : Fx := ⟨3, 0, i, sumI (colF b i)⟩
def downL (b : Bk) : List Fx := (List.range b.dn.length).map (downF b)
def wholeL (b : Bk) : List Fx := [⟨4, 0, 0, sumI b.ac⟩]
theorem range_take {α : Type} (f : Nat → α) (n k : Nat) (h : k < n) : ((List.range n).map f).take (k + 1) = ((List.range n).map f).take k ++ [f k] := by
  rw [← List.take_append_getElem (show k < ((List.range n).map f).length by simpa using h)]; simp

set_option maxHeartbeats 2000000 in
theorem across_c (m : Bm) (hb : bookB m.b = true) (w : World) (hi : m.In w) : Calls Tryz.prog 156 #[m.val] w (Gives eF w (acrossL m.b)) := by
  have ok := (bookB_iff _).1 hb
  have e1 : m.b.rows.length = m.rn := by rw [← hi.rows.1, hi.hs.1]
  have e3 : m.b.dn.length = m.dn := hi.dn.1
  have b1 := ok.r; have b2 := ok.d
  have HOk := Lib.hid ok
  obtain ⟨R, A, D, rn, rc, an, ac, dn, dc, ss, b⟩ := m
  obtain ⟨h1, h2, h3, h4⟩ := hi
  simp only [Bm.val] at *
  have HS := Lib.hid h1; have HR := Lib.hid h2; have HRL := Lib.hid e1; have HDl := Lib.hid e3
  have q1 : rn ≤ 6 := by omega
  have q2 : dn ≤ 6 := by omega
  have B0 := Lib.hid (newB (Below.refl w.heap.size w) (.cells #[.slice R rn rc, .slice A an ac, .slice D dn dc, .int .i64 b.all] 138))
  clear h1 h2 h3 h4 e1 e3 ok b1 b2 hb
  go_enter Tryz.func156, Tryz.ntmps156
  go_wp2
  go_loopw [3, 10] (fun t v wr => ∃ j : Nat, j ≤ rn ∧ v = .int .i64 j ∧ Own eF w.heap.size t ((acrossL b).take j) wr ∧ Below w.heap.size w wr) (fun _ v _ => rn - (intOf v).toNat)
  case atStart => exact ⟨0, by omega, rfl, by simpa using Own.nil eF w.heap.size _, B0.out⟩
  case round =>
    obtain ⟨j, hj, rfl, hO, hB⟩ := hrel
    have HB := Lib.hid hB; have HO := Lib.hid hO
    clear hB hO
    by_cases hjn : j < rn
    · have hjl : j < b.rows.length := by rw [HRL.out]; exact hjn
      obtain ⟨b1, o, he⟩ := HS.out.addr (by omega)
      obtain ⟨s, hs, hrow⟩ := (HR.out.keep HB.out).get hjl
      have hrn := HOk.out.num _ (List.getElem_mem hjl)
      have hrl := HOk.out.row _ (List.getElem_mem hjl)
      have hgr : b.rows.getD j [] = b.rows[j] := by simp [List.getD_eq_getElem?_getD, List.getElem?_eq_getElem hjl]
      have HT := Lib.hid (show (acrossL b).take (j + 1) = (acrossL b).take j ++ [⟨2, j, 0, sumI b.rows[j]⟩] by
        unfold acrossL
        rw [range_take _ _ _ hjl, acrossF, hgr])
      obtain ⟨r, hrr⟩ : ∃ r, r = b.rows[j] := ⟨_, rfl⟩
      rw [← hrr] at hrow hrn hrl HT
      clear hrr hgr
      subst he
      obtain ⟨A1, n1, c1⟩ := s
      have hc : wr.cell? ⟨b1, o + j, none⟩ = some (.slice A1 n1 c1) := by have := (HS.out.keep HB.out).range slC_len hs 0 _ rfl; simpa using this
      simp only at hrow
      have hn1 : n1 ≤ 6 := by rw [← hrow.1, hrl, HDl.out]; omega
      have HSm := Lib.hid fun (w' : World) (hb : Below wr.heap.size wr w') => sum_c A1 n1 c1 r (by omega) (fun j _ => few_sum r hrn (by rw [hrow.1]; omega) j) w' (hrow.keep hb)
      have HLn := Lib.hid (show ((acrossL b).take j).length ≤ 20000000 by simp [acrossL]; omega)
      clear hs hrow hrn hrl
      go_wp2_with (first
        | (go_at_call 109; refine (HSm.out _ (Below.refl _ _)).mono ?_; rintro e w1 ⟨rfl, hb⟩; have HB1 := Lib.hid (nextB HB.out hb); have HO1 := Lib.hid (HO.out.keep hb); clear hb)
        | (at_builtin; refine El.app1 eF_ok rfl _ _ rfl w.heap.size u3 _ rfl (HO1.out.alloc (.cells #[.int .i64 2, .int .i64 j, .int .i64 0, .int .i64 (sumI r)] 90)) HLn.out w1.heap.size ⟨2, j, 0, sumI r⟩ rfl (Has.new w1 90 _) (newB HB1.out _).size ?_; intro v3 w3 ho3 hb3 _; have HO3 := Lib.hid ho3; have HB3 := Lib.hid ((newB HB1.out (.cells #[.int .i64 2, .int .i64 j, .int .i64 0, .int .i64 (sumI r)] 90)).trans hb3); clear ho3 hb3))
      go_roundw
      case rel => exact ⟨j + 1, by omega, by go_num, by rw [HT.out]; exact HO3.out, HB3.out⟩
      case measure => simp [intOf]; omega
    · have hjn' : j = rn := by omega
      subst hjn'
      have HE := Lib.hid (show (acrossL b).take j = acrossL b from List.take_of_length_le (by simp [acrossL]; have := HRL.out; omega))
      go_wp2
      exact bodyPost_ret (results_tmp rfl _ _ _) rfl ⟨_, rfl, by rw [← HE.out]; exact HO.out, HB.out⟩
end Go.Proofs
namespace Go.Proofs
open Go.RowKit Go.Shelf
attribute [local go_sem ↓] Go.wp_at_zero Go.wp_at_succ

theorem colF_len (b : Bk) (k : Nat) : (colF b k).length = b.rows.length := by simp [colF]

set_option maxHeartbeats 2000000 in
theorem down_c (m : Bm) (hb : bookB m.b = true) (w : World) (hi : m.In w) : Calls Tryz.prog 157 #[m.val] w (Gives eF w (downL m.b)) := by
  have ok := (bookB_iff _).1 hb
  have e1 : m.b.rows.length = m.rn := by rw [← hi.rows.1, hi.hs.1]
  have e2 : m.b.ac.length = m.an := hi.ac.1
  have e3 : m.b.dn.length = m.dn := hi.dn.1
  have b1 := ok.r; have b2 := ok.d; have b3 := ok.a
  have HCol := Lib.hid fun (w' : World) (hb : Below w.heap.size w w') (k : Nat) (hk : k < m.dn) => column3_c m ⟨by omega, by omega, by omega⟩ k (fun r hr => by rw [ok.row r hr]; omega) w' (hi.keep hb)
  have HOk := Lib.hid ok
  obtain ⟨R, A, D, rn, rc, an, ac, dn, dc, ss, b⟩ := m
  simp only [Bm.val] at *
  have HRL := Lib.hid e1; have HDl := Lib.hid e3
  have q1 : rn ≤ 6 := by omega
  have q2 : dn ≤ 6 := by omega
  have B0 := Lib.hid (newB (Below.refl w.heap.size w) (.cells #[.slice R rn rc, .slice A an ac, .slice D dn dc, .int .i64 b.all] 138))
  have F0 := Lib.hid (Has.new w 138 #[.slice R rn rc, .slice A an ac, .slice D dn dc, .int .i64 b.all])
  clear hi e1 e2 e3 ok b1 b2 b3 hb
  go_enter Tryz.func157, Tryz.ntmps157
  go_wp2
  go_loopw [3, 9] (fun t v wr => ∃ j : Nat, j ≤ dn ∧ v = .int .i64 j ∧ Own eF w.heap.size t ((downL b).take j) wr ∧ Below w.heap.size w wr ∧ Has wr w.heap.size 138 #[.slice R rn rc, .slice A an ac, .slice D dn dc, .int .i64 b.all]) (fun _ v _ => dn - (intOf v).toNat)
  case atStart => exact ⟨0, by omega, rfl, by simpa using Own.nil eF w.heap.size _, B0.out, F0.out⟩
  case round =>
    obtain ⟨j, hj, rfl, hO, hB, hF⟩ := hrel
    have HB := Lib.hid hB; have HO := Lib.hid hO; have HF := Lib.hid hF
    have cf := hF.cell; have zf := hF.lt
    clear hB hO hF
    by_cases hjn : j < dn
    · have hjl : j < b.dn.length := by rw [HDl.out]; exact hjn
      have HT := Lib.hid (show (downL b).take (j + 1) = (downL b).take j ++ [⟨3, 0, j, sumI (colF b j)⟩] by
        unfold downL
        rw [range_take _ _ _ hjl, downF])
      have HCN := Lib.hid (colF_num HOk.out (k := j) hjl)
      have HCL := Lib.hid (show (colF b j).length ≤ 6 by rw [colF_len, HRL.out]; omega)
      have HLn := Lib.hid (show ((downL b).take j).length ≤ 20000000 by simp [downL]; omega)
      go_wp2_with (first
        | (refine wpList_load_row rfl 138 _ rfl w.heap.size rfl 138 _ (0, 0) _ HF.out Tryz.underlying138 rfl (by kernel_rfl) ?_)
        | (go_at_call 153; refine (HCol.out _ HB.out j hjn).mono ?_; rintro e w1 ⟨v, rfl, ho, hb⟩; obtain ⟨A2, c2, rfl, hsl, _⟩ := Own.sl ho; have HB1 := Lib.hid (nextB HB.out hb); have HO1 := Lib.hid (HO.out.keep hb); have HSl := Lib.hid hsl; have HF1 := Lib.hid (HF.out.after hb); clear hb ho hsl)
        | (go_at_call 109; refine (sum_c A2 _ c2 (colF b j) (by have := HCL.out; omega) (fun i _ => few_sum _ HCN.out (by have := HCL.out; omega) i) w1 HSl.out).mono ?_; rintro e w2 ⟨rfl, hb⟩; have HB2 := Lib.hid (nextB HB1.out hb); have HO2 := Lib.hid (HO1.out.keep hb); have HF2 := Lib.hid (HF1.out.after hb); clear hb)
        | (at_builtin; refine El.app1 eF_ok rfl _ _ rfl w.heap.size u3 _ rfl (HO2.out.alloc (.cells #[.int .i64 3, .int .i64 0, .int .i64 j, .int .i64 (sumI (colF b j))] 90)) HLn.out w2.heap.size ⟨3, 0, j, sumI (colF b j)⟩ rfl (Has.new w2 90 _) (newB HB2.out _).size ?_; intro v3 w3 ho3 hb3 hs3; have HO3 := Lib.hid ho3; have HB3 := Lib.hid ((newB HB2.out (.cells #[.int .i64 3, .int .i64 0, .int .i64 j, .int .i64 (sumI (colF b j))] 90)).trans hb3); have HF3 := Lib.hid (hs3.has (HF2.out.alloc (.cells #[.int .i64 3, .int .i64 0, .int .i64 j, .int .i64 (sumI (colF b j))] 90)) (by decide)); clear ho3 hb3 hs3))
      go_roundw
      case rel => exact ⟨j + 1, by omega, by go_num, by rw [HT.out]; exact HO3.out, HB3.out, HF3.out⟩
      case measure => simp [intOf]; omega
    · have hjn' : j = dn := by omega
      subst hjn'
      have HE := Lib.hid (show (downL b).take j = downL b from List.take_of_length_le (by simp [downL]; have := HDl.out; omega))
      go_wp2
      exact bodyPost_ret (results_tmp rfl _ _ _) rfl ⟨_, rfl, by rw [← HE.out]; exact HO.out, HB.out⟩

set_option maxHeartbeats 2000000 in
theorem whole_c (m : Bm) (hb : bookB m.b = true) (w : World) (hi : m.In w) : Calls Tryz.prog 158 #[m.val] w (Gives eF w (wholeL m.b)) := by
  have ok := (bookB_iff _).1 hb
  have e2 : m.b.ac.length = m.an := hi.ac.1
  have b1 := ok.r; have b3 := ok.a
  have hnum := ok.nac
  obtain ⟨R, A, D, rn, rc, an, ac, dn, dc, ss, b⟩ := m
  simp only [Bm.val] at *
  have B0 := Lib.hid (newB (Below.refl w.heap.size w) (.cells #[.slice R rn rc, .slice A an ac, .slice D dn dc, .int .i64 b.all] 138))
  have HSm := Lib.hid fun (w' : World) (hb : Below w.heap.size w w') => sum_c A an ac b.ac (by omega) (fun j _ => few_sum b.ac hnum (by omega) j) w' (hi.ac.keep hb)
  clear hi e2 ok b1 b3 hb hnum
  go_enter Tryz.func158, Tryz.ntmps158
  go_wp2_with (go_at_call 109; refine (HSm.out _ B0.out).mono ?_; rintro e w1 ⟨rfl, hb⟩; have HB1 := Lib.hid (nextB B0.out hb); clear hb)
  exact bodyPost_ret (results_tmp rfl _ _ _) rfl ⟨.slice (some ⟨w1.heap.size, 0, none⟩) 1 1, rfl, Own.of_has (xs := wholeL b) (n := 1) (cur := #[.int .i64 4, .int .i64 0, .int .i64 0, .int .i64 (sumI b.ac)]) eF_ok (Has.new w1 90 _) HB1.out.size rfl rfl (by simp [wholeL, flat, Fx.cs, eF]) (by unfold maxLen; omega), newB HB1.out _⟩
end Go.Proofs
namespace Go.Proofs
open Go.RowKit Go.Shelf
attribute [local go_sem ↓] Go.wp_at_zero Go.wp_at_succ

/-- What a row lacks. -/
def lackF (b : Bk) (i : Nat) : Int := b.ac.getD i 0 - sumI (b.rows.getD i [])
def entF (b : Bk) (i k : Nat) : Fx := ⟨1, i, k, (b.rows.getD i []).getD k 0 + lackF b i⟩
def entRow (b : Bk) (i : Nat) : List Fx := (List.range (b.rows.getD i []).length).map (entF b i)
def entPre (b : Bk) (j : Nat) : List Fx := (List.range j).flatMap (entRow b)
def entL (b : Bk) : List Fx := entPre b b.rows.length
theorem entPre_succ (b : Bk) (j : Nat) : entPre b (j + 1) = entPre b j ++ entRow b j := by
  unfold entPre; rw [List.range_succ, List.flatMap_append]; simp
theorem entPre_len {b : Bk} (h : BkOk b) : ∀ j, (entPre b j).length ≤ j * 6
  | 0 => by simp [entPre]
  | j + 1 => by
    have := entPre_len h j
    have h2 : (entRow b j).length ≤ 6 := by
      simp only [entRow, List.length_map, List.length_range]
      by_cases hj : j < b.rows.length
      · have e : b.rows.getD j [] = b.rows[j] := by simp [List.getD_eq_getElem?_getD, List.getElem?_eq_getElem hj]
        rw [e, h.row _ (List.getElem_mem hj)]; exact h.d
      · simp [List.getD_eq_getElem?_getD, List.getElem?_eq_none (show b.rows.length ≤ j by omega)]
    rw [entPre_succ, List.length_append]; omega

set_option maxHeartbeats 4000000 in
theorem entries_c (m : Bm) (hb : bookB m.b = true) (w : World) (hi : m.In w) : Calls Tryz.prog 155 #[m.val] w (Gives eF w (entL m.b)) := by
  have ok := (bookB_iff _).1 hb
  have e1 : m.b.rows.length = m.rn := by rw [← hi.rows.1, hi.hs.1]
  have e2 : m.b.ac.length = m.an := hi.ac.1
  have e3 : m.b.dn.length = m.dn := hi.dn.1
  have b1 := ok.r; have b2 := ok.d; have b3 := ok.a
  have HOk := Lib.hid ok
  obtain ⟨R, A, D, rn, rc, an, ac, dn, dc, ss, b⟩ := m
  obtain ⟨h1, h2, h3, h4⟩ := hi
  simp only [Bm.val] at *
  have q1 : rn ≤ 6 := by omega
  have q2 : dn ≤ 6 := by omega
  have q3 : an = rn := by omega
  subst q3
  have HS := Lib.hid h1; have HR := Lib.hid h2; have HA := Lib.hid h3; have HRL := Lib.hid e1; have HAl := Lib.hid e2; have HDl := Lib.hid e3
  have B0 := Lib.hid (newB (Below.refl w.heap.size w) (.cells #[.slice R an rc, .slice A an ac, .slice D dn dc, .int .i64 b.all] 138))
  have F0 := Lib.hid (Has.new w 138 #[.slice R an rc, .slice A an ac, .slice D dn dc, .int .i64 b.all])
  clear h1 h2 h3 h4 e1 e2 e3 ok b1 b2 b3 hb
  go_enter Tryz.func155, Tryz.ntmps155
  go_wp2
  go_loopw [3, 13] (fun t v wr => ∃ j : Nat, j ≤ an ∧ v = .int .i64 j ∧ Own eF w.heap.size t (entPre b j) wr ∧ Below w.heap.size w wr ∧ Has wr w.heap.size 138 #[.slice R an rc, .slice A an ac, .slice D dn dc, .int .i64 b.all]) (fun _ v _ => an - (intOf v).toNat)
  case atStart => exact ⟨0, by omega, rfl, by simpa [entPre] using Own.nil eF w.heap.size _, B0.out, F0.out⟩
  case round =>
    obtain ⟨j, hj, rfl, hO, hB, hF⟩ := hrel
    have HB := Lib.hid hB; have HO := Lib.hid hO; have HF := Lib.hid hF
    have cf := hF.cell; have zf := hF.lt
    clear hB hO hF
    by_cases hjn : j < an
    · have hjl : j < b.rows.length := by rw [HRL.out]; exact hjn
      have hal : j < b.ac.length := by rw [HAl.out]; exact hjn
      obtain ⟨b1, o, he⟩ := HS.out.addr (by omega)
      obtain ⟨b2, o2, he2⟩ := HA.out.addr (by omega)
      obtain ⟨s, hs, hroww⟩ := HR.out.get hjl
      have hrn := HOk.out.num _ (List.getElem_mem hjl)
      have hrl := HOk.out.row _ (List.getElem_mem hjl)
      have hxn := HOk.out.nac _ (List.getElem_mem hal)
      have hx := List.getElem?_eq_getElem hal
      have hgr : b.rows.getD j [] = b.rows[j] := by simp [List.getD_eq_getElem?_getD, List.getElem?_eq_getElem hjl]
      have HP := Lib.hid (entPre_succ b j)
      have HPl := Lib.hid (entPre_len HOk.out j)
      obtain ⟨r, hrr⟩ : ∃ r, r = b.rows[j] := ⟨_, rfl⟩
      obtain ⟨x, hxx⟩ : ∃ x, x = b.ac[j] := ⟨_, rfl⟩
      rw [← hrr] at hroww hrn hrl hgr
      rw [← hxx] at hx hxn
      have hgx : b.ac.getD j 0 = x := by simp [List.getD_eq_getElem?_getD, hx]
      have HLk := Lib.hid (show lackF b j = x - sumI r by unfold lackF; rw [hgr, hgx])
      have HEr := Lib.hid (show entRow b j = (List.range r.length).map (entF b j) by unfold entRow; rw [hgr])
      have HEf := Lib.hid (show ∀ k (hk : k < r.length), entF b j k = ⟨1, j, k, r[k] + (x - sumI r)⟩ by
        intro k hk
        unfold entF
        rw [hgr, HLk.out]
        simp [List.getD_eq_getElem?_getD, List.getElem?_eq_getElem hk])
      subst he; subst he2
      obtain ⟨A1, n1, c1⟩ := s
      have hc : wr.cell? ⟨b1, o + j, none⟩ = some (.slice A1 n1 c1) := by have := (HS.out.keep HB.out).range slC_len hs 0 _ rfl; simpa using this
      have CA := Lib.hid fun (w' : World) (hb : Below w.heap.size w w') => (show w'.cell? ⟨b2, o2 + j, none⟩ = some (.int .i64 x) from by have := (HA.out.keep hb).range inC_len hx 0 _ rfl; simpa using this)
      simp only at hroww
      have hrow := hroww.keep HB.out
      have HRw := Lib.hid hroww
      clear hroww
      have hn1 : n1 ≤ 6 := by rw [← hrow.1, hrl, HDl.out]; omega
      have HRow := Lib.hid hrow
      have HRn := Lib.hid hrn
      have HSm := Lib.hid fun (w' : World) (hb : Below wr.heap.size wr w') => sum_c A1 n1 c1 r (by omega) (fun j _ => few_sum r hrn (by rw [hrow.1]; omega) j) w' (hrow.keep hb)
      have hs1 : -6000000000000000 ≤ sumI r ∧ sumI r ≤ 6000000000000000 := by
        have := sumI_bd r 1000000000000000 (fun x hx => by have := hrn x hx; omega)
        have : r.length ≤ 6 := by rw [hrow.1]; omega
        omega
      have HS1 := Lib.hid hs1
      have HXn := Lib.hid hxn
      clear hs hrow hx hrr hxx hgr hgx hrn hrl hs1 hxn
      obtain ⟨z, hz⟩ : ∃ z, z = sumI r := ⟨_, rfl⟩
      rw [← hz] at HSm HS1 HLk HEf
      have HZ := Lib.hid hz
      clear hz
      obtain ⟨l, hl⟩ : ∃ l, l = x - z := ⟨_, rfl⟩
      rw [← hl] at HLk HEf
      have HLd := Lib.hid hl
      clear hl
      go_wp2
      refine wp_free 10 (by kernel_rfl) (by kernel_rfl) (by kernel_rfl) (by decide) ?_
      intro K hK
      iterate 7 (apply Obl.val (by decide) (by kernel_rfl); (intro w' hb; have := (HF.out.after hb).cell; have := CA.out w' (nextB HB.out hb); go_simp; rfl))
      apply Obl.call (f := 109) (by decide) (by kernel_rfl)
      · intro w' hb; go_simp; exact rfl
      · intro w' hb; exact HSm.out w' hb
      apply Obl.val (v := .int .i64 l) (by decide) (by kernel_rfl)
      · intro w' hb; have := HS1.out; have := HXn.out; have := HLd.out; go_simp; rw [IntKind.wrap_i64]; omega
      apply Obl.val (by decide) (by kernel_rfl)
      · intro w' hb; go_simp; rfl
      apply Obl.nil
      apply hK
      intro w2 hb
      simp only [Act.put, List.setIfInBounds_toArray, List.set_cons_zero, List.set_cons_succ, List.drop_succ_cons, List.drop_zero]
      clear hK K
      have HB2 := Lib.hid (nextB HB.out hb); have HF2 := Lib.hid (HF.out.after hb); have HO2 := Lib.hid (HO.out.keep hb)
      clear hb cf zf hc
      go_wp2
      go_loopw [3, 29] (fun t v wr => ∃ k : Nat, k ≤ n1 ∧ v = .int .i64 k ∧ Own eF w.heap.size t (entPre b j ++ (entRow b j).take k) wr ∧ Below w.heap.size w wr ∧ Has wr w.heap.size 138 #[.slice (some ⟨b1, o, none⟩) an rc, .slice (some ⟨b2, o2, none⟩) an ac, .slice D dn dc, .int .i64 b.all]) (fun _ v _ => n1 - (intOf v).toNat)
      case atStart => exact ⟨0, by omega, rfl, by simpa using HO2.out, HB2.out, HF2.out⟩
      case round =>
        obtain ⟨k, hk, rfl, hO, hB, hF⟩ := hrel
        clear HB HO HF HB2 HF2 HO2
        have HB := Lib.hid hB; have HO := Lib.hid hO; have HF := Lib.hid hF; have HRow2 := Lib.hid (HRw.out.keep hB)
        clear hB hO hF
        by_cases hkn : k < n1
        · have hkl : k < r.length := by rw [HRow2.out.1]; exact hkn
          obtain ⟨b3, o3, he3⟩ := HRow2.out.addr (by omega)
          have hx := List.getElem?_eq_getElem hkl
          have HEk := Lib.hid (HEf.out k hkl)
          have HT := Lib.hid (show (entRow b j).take (k + 1) = (entRow b j).take k ++ [⟨1, j, k, r[k] + l⟩] by
            rw [HEr.out, range_take _ _ _ hkl, HEk.out])
          have hyn := HRn.out _ (List.getElem_mem hkl)
          obtain ⟨y, hyy⟩ : ∃ y, y = r[k] := ⟨_, rfl⟩
          rw [← hyy] at hx HT hyn
          clear HEk
          subst he3
          have hc3 : wr.cell? ⟨b3, o3 + k, none⟩ = some (.int .i64 y) := by have := HRow2.out.range inC_len hx 0 _ rfl; simpa using this
          obtain ⟨q, hq⟩ : ∃ q, q = y + l := ⟨_, rfl⟩
          rw [← hq] at HT
          have HW := Lib.hid (show wrap64 (y + l) = q by have := HS1.out; have := HXn.out; have := HLd.out; rw [IntWalk.wrap64_in (y + l) (by omega), hq])
          have HLn := Lib.hid (show (entPre b j ++ (entRow b j).take k).length ≤ 20000000 by
            have := HPl.out
            rw [List.length_append, List.length_take]; omega)
          clear hx hyy hyn hq
          go_wp2_with (first
            | (rw [HW.out])
            | (at_builtin; refine El.app1 eF_ok rfl _ _ rfl w.heap.size u3 _ rfl (HO.out.alloc (.cells #[.int .i64 1, .int .i64 j, .int .i64 k, .int .i64 q] 90)) HLn.out wr.heap.size ⟨1, j, k, q⟩ rfl (Has.new wr 90 _) (newB HB.out _).size ?_; intro v3 w3 ho3 hb3 hs3; have HO3 := Lib.hid ho3; have HB3 := Lib.hid ((newB HB.out (.cells #[.int .i64 1, .int .i64 j, .int .i64 k, .int .i64 q] 90)).trans hb3); have HF3 := Lib.hid (hs3.has (HF.out.alloc (.cells #[.int .i64 1, .int .i64 j, .int .i64 k, .int .i64 q] 90)) (by decide)); clear ho3 hb3 hs3))
          go_roundw
          case rel => exact ⟨k + 1, by omega, by go_num, by rw [HT.out, ← List.append_assoc]; exact HO3.out, HB3.out, HF3.out⟩
          case measure => simp [intOf]; omega
        · have hkn' : k = n1 := by omega
          subst hkn'
          have HE := Lib.hid (show entPre b j ++ (entRow b j).take k = entPre b (j + 1) by
            rw [HP.out, List.take_of_length_le (by rw [HEr.out]; simp; rw [HRow2.out.1]; exact Nat.le_refl _)])
          rw [HE.out] at HO
          go_wp2
          go_roundw
          case rel => exact ⟨j + 1, by omega, by go_num, HO.out, HB.out, HF.out⟩
          case measure => simp [intOf]; omega
    · have hjn' : j = an := by omega
      subst hjn'
      have HE := Lib.hid (show entPre b j = entL b by unfold entL; rw [HRL.out])
      go_wp2
      exact bodyPost_ret (results_tmp rfl _ _ _) rfl ⟨_, rfl, by rw [← HE.out]; exact HO.out, HB.out⟩
end Go.Proofs
namespace Go.Proofs
open Go.RowKit
section
variable {P : Program} {ops : Array Oper}

theorem free_anyE {m : Nat} (i1 i2 : Nat) (E : Value → Value → Prop) (h12 : i1 < i2) (h2m : i2 < m) (hW : ∀ o, ops[i2]? = some o → waits o i1 = true) (hF : freeB ops m none = true) (hT : tailB ops m = true) {Q : Exit → Act → World → Prop} {a : Act} {w0 : World} (sp : Nat → Spec) (hst : ∀ i, i < m → (sp i).stable)
    (hN : ∀ i o, i < m → ops[i]? = some o → ∀ vs w, (∀ j x, (sp j).fix = some x → vs j = x) → Below w0.heap.size w0 w → (∀ j, j < i → waits o j = true → (sp j).holds (vs j) w) → MkS P ops (.r fun v w' => (sp i).holds v w' ∧ (i = i2 → E (vs i1) v)) o (canon ops vs (fun j => decide (j < i)) a m) w)
    (hK : ∀ vs w, (∀ j x, (sp j).fix = some x → vs j = x) → Below w0.heap.size w0 w → (∀ j, j < m → (sp j).holds (vs j) w) → E (vs i1) (vs i2) → wpList P ops Q (ops.toList.drop m) (canon ops vs (fun _ => true) a m) w) (hms : m ≤ ops.size) :
    ∀ (f : Nat) (listed : Array Bool) (vs : Nat → Value) (w : World), HeadInv .any ops m listed → (List.range m).countP (fun j => !selOf listed j) + (ops.size - m) ≤ f → (∀ j x, (sp j).fix = some x → vs j = x) →
      Below w0.heap.size w0 w → (∀ j, j < m → selOf listed j = true → (sp j).holds (vs j) w) → (selOf listed i2 = true → selOf listed i1 = true ∧ E (vs i1) (vs i2)) → wpAny P .any ops Q f listed (canon ops vs (selOf listed) a m) w := by
  intro f
  induction f with
  | zero =>
    intro listed vs w inv hf hfx hB hq hee
    have hall : ∀ j, j < m → selOf listed j = true := fun j hj => by
      have h0 : (List.range m).countP (fun j => !selOf listed j) = 0 := by omega
      have := List.countP_eq_zero.1 h0 j (List.mem_range.2 hj)
      simpa using this
    rw [canon_congr (vs' := vs) (sel' := fun _ => true) m (fun j hj => ⟨hall j hj, fun _ => rfl⟩)]
    exact tail_any hF hT 0 m listed _ w (Nat.le_refl _) hms (by omega) ⟨inv.size, hall, inv.tail⟩ (hK vs w hfx hB (fun j hj => hq j hj (hall j hj)) (hee (hall i2 h2m)).2)
  | succ f ih =>
    intro listed vs w inv hf hfx hB hq hee
    by_cases hall : ∀ j, j < m → selOf listed j = true
    · rw [canon_congr (vs' := vs) (sel' := fun _ => true) m (fun j hj => ⟨hall j hj, fun _ => rfl⟩)]
      exact tail_any hF hT (f + 1) m listed _ w (Nat.le_refl _) hms (by omega) ⟨inv.size, hall, inv.tail⟩ (hK vs w hfx hB (fun j hj => hq j hj (hall j hj)) (hee (hall i2 h2m)).2)
    · have hex : ∃ j, j < m ∧ selOf listed j = false ∧ ∀ k, k < j → selOf listed k = true := by
        have h1 : ∃ j, j < m ∧ selOf listed j = false := by
          refine Classical.byContradiction fun hno => hall fun j hj => ?_
          cases hs : selOf listed j with
          | true => rfl
          | false => exact absurd ⟨j, hj, hs⟩ hno
        obtain ⟨j, hj⟩ := h1
        induction j using Nat.strongRecOn with
        | _ j ihj =>
          by_cases hk : ∀ k, k < j → selOf listed k = true
          · exact ⟨j, hj.1, hj.2, hk⟩
          · have : ∃ k, k < j ∧ selOf listed k = false := by
              refine Classical.byContradiction fun hno => hk fun k hk' => ?_
              cases hs : selOf listed k with
              | true => rfl
              | false => exact absurd ⟨k, hk', hs⟩ hno
            obtain ⟨k, hk1, hk2⟩ := this
            exact ihj k hk1 ⟨by omega, hk2⟩
      obtain ⟨j, hjm, hju, hjb⟩ := hex
      obtain ⟨oj, hoj⟩ : ∃ oj, ops[j]? = some oj := ⟨_, Array.getElem?_eq_getElem (by omega)⟩
      have hjr : j ∈ Region.ready .any ops listed := mem_ready.2 ⟨hju, oj, hoj, fun e he hb => by
        have h1 := (freeB_spec hF hoj).back e he hb
        have h2 := hjb e.on h1
        have h3 : e.on < listed.size := by rw [inv.size]; omega
        unfold selOf at h2
        simp [h3] at h2 ⊢; exact h2⟩
      refine ⟨fun h0 => absurd hjr (by rw [h0]; exact List.not_mem_nil), fun i hi => ?_⟩
      obtain ⟨hu, o, ho, hafter⟩ := mem_ready.1 hi
      have hisz : i < ops.size := (Array.getElem?_eq_some_iff.1 ho).1
      have him : i < m := by
        unfold tailB at hT
        simp only [Bool.or_eq_true, decide_eq_true_eq, Bool.and_eq_true] at hT
        rcases hT with hT | ⟨⟨hlt, hs⟩, hc⟩
        · omega
        · exact Nat.lt_of_not_le fun hge => tail_waits hs hc hlt inv _ j rfl hjm hju i hge hi
      have hF' := freeB_spec hF ho
      have hdst : dstOf ops i = o.dst := by simp [dstOf, ho]
      have hdis : ∀ k, k < m → k ≠ i → ∀ d, dstOf ops k = some d → dstOf ops i ≠ some d := fun k hk hne d hd => by
        rw [hdst]; exact (hF'.apart him k hk hne d hd).1
      have hsel' : selOf (listed.setIfInBounds i true) = fun k => selOf listed k || k == i := by
        funext k
        unfold selOf
        by_cases hki : k = i
        · subst hki
          have : k < listed.size := by rw [inv.size]; exact hisz
          simp [this]
        · rw [getD_set_ne true (Ne.symm hki)]
          simp [hki]
      have hcount : (List.range m).countP (fun k => !selOf (listed.setIfInBounds i true) k) < (List.range m).countP (fun k => !selOf listed k) := by
        refine countP_lt (x := i) (List.mem_range.2 him) (fun y hy => ?_) (by simp [selOf, hu]) (by rw [hsel']; simp)
        rw [hsel'] at hy
        simp at hy
        simp [hy.1]
      have hsz : ∀ vs' sel', (canon ops vs' sel' a m).tmps.size = a.tmps.size := fun vs' sel' => (canon_size m).1
      have hev := looks_eval (vs := vs) (vs' := vs) (a := a) hF ho him inv hms hi (fun k _ => rfl)
      have hsame : (fun j => decide (j < i) && (none : Option Nat) != some j) = fun j => decide (j < i) := by funext j; simp
      rw [hsame] at hev
      obtain ⟨he, hw⟩ := getLooks (ops := ops) (o := o) hF'.sel (by rw [hsz, hsz]) hev
      have hlist : ∀ j, j < i → waits o j = true → selOf listed j = true := fun j hj hwt => by
        obtain ⟨e, he', hb', hon⟩ := waits_spec hwt
        have h5 := hafter e he' hb'
        rw [hon] at h5
        have hjs : j < listed.size := by rw [inv.size]; omega
        unfold selOf
        simp [hjs] at h5 ⊢; exact h5
      refine (hN i o him ho vs w hfx hB (fun j hj hwt => hq j (by omega) (hlist j hj hwt))).wpOp ho (by rw [hsz, hsz]) he hw (fun v w' hv0 hb => ?_)
      obtain ⟨hv, hvE⟩ := hv0
      have e1 : canon ops vs (selOf listed) a m = canon ops (fun k => if k = i then v else vs k) (selOf listed) a m :=
        canon_congr m (fun k hk => ⟨rfl, fun hs => by
          have : k ≠ i := fun h' => by subst h'; unfold selOf at hs; rw [hu] at hs; cases hs
          simp [this]⟩)
      have e2 : (canon ops vs (selOf listed) a m).put o.dst v = canon ops (fun k => if k = i then v else vs k) (selOf (listed.setIfInBounds i true)) a m := by
        rw [hsel', canon_put hu m him hdis, e1, hdst]
        simp
      rw [e2]
      refine ih _ _ w' (inv.set hi him) (by omega) (fun k x hk => ?_) (hB.trans (hb.mono hB.size)) (fun k hk hs => ?_) (fun hs => ?_)
      · by_cases hki : k = i
        · subst hki; simp only [if_true]; exact Spec.holds_fix hk hv
        · simp only [if_neg hki]; exact hfx k x hk
      · by_cases hki : k = i
        · subst hki; simp only [if_true]; exact hv
        · simp only [if_neg hki]
          have hk2 : selOf listed k = true := by
            rw [hsel'] at hs
            simpa [hki] using hs
          exact Spec.keep (hst k hk) (hq k hk hk2) hb
      · by_cases h2 : i2 = i
        · have h1 : i1 ≠ i := by omega
          have hl1 := hlist i1 (by omega) (hW o (h2 ▸ ho))
          refine ⟨by rw [hsel']; simp [hl1], ?_⟩
          simp only [if_neg h1, if_pos h2]
          exact hvE h2.symm
        · have hk2 : selOf listed i2 = true := by
            rw [hsel'] at hs
            simpa [h2] using hs
          obtain ⟨hl1, hE1⟩ := hee hk2
          have h1 : i1 ≠ i := fun h => by rw [h] at hl1; unfold selOf at hl1; rw [hu] at hl1; cases hl1
          refine ⟨by rw [hsel']; simp [hl1], ?_⟩
          simp only [if_neg h1, if_neg h2]
          exact hE1
end
section
variable {P : Program} {l : List Oper} {Q : Exit → Act → World → Prop} {a : Act} {w : World}

/-- As wp_loose, where two operations yield loose results of which the second, a call, is told the first: what holds of the two together. -/
theorem any_looseE {m : Nat} (S : List Spec) (E : Value → Value → Prop) (i1 i2 ia d1 d2 da : Nat) (f : FuncId) (va : Value) (R1 R2 : Value → World → Prop) {o1 o2 oa : Oper} (h12 : i1 < i2) (ha2 : ia < i2) (hla : l[ia]? = some oa) (hda : oa.dst = some da) (hza : da < a.tmps.size) (hSa : S[ia]? = some (.v va))
    (h1 : l[i1]? = some o1) (h2 : l[i2]? = some o2) (hd1 : o1.dst = some d1) (hd2 : o2.dst = some d2) (hS1 : S[i1]? = some (.r R1)) (hS2 : S[i2]? = some (.r R2)) (hz1 : d1 < a.tmps.size) (hz2 : d2 < a.tmps.size) (hw12 : waits o2 i1 = true) (hg2 : o2.guard = none)
    (hx : ∀ (b : Act) w', b.tmps[da]? = some va → (execOp b.eval o2).run P w' = .ok (.enter f #[va]) w')
    (hE : ∀ w' v1, Below w.heap.size w w' → R1 v1 w' → Calls P f #[va] w' fun e w'' => ∃ v, e = .returned v ∧ (R2 v w'' ∧ E v1 v) ∧ Below w'.heap.size w' w'')
    (hF : freeB l.toArray m none = true) (hT : tailB l.toArray m = true) (hms : m ≤ l.length) (hSm : S.length = m)
    (h : OblS P l.toArray w 0 S (l.take m) a [] (fun a' H => ∀ w', Below w.heap.size w w' → (∀ p ∈ H, p.2 w') → (∀ x y, a'.tmps[d1]? = some x → a'.tmps[d2]? = some y → E x y) → wpList P l.toArray Q (l.drop m) a' w')) :
    wpAny P .any l.toArray Q l.toArray.size (Array.replicate l.toArray.size false) a { w with drawn := w.drawn + 1 } := by
  obtain ⟨sp, hsp⟩ : ∃ sp : Nat → Spec, sp = fun j => S.getD j (.v undef) := ⟨_, rfl⟩
  obtain ⟨vs0, hvs0⟩ : ∃ vs0 : Nat → Value, vs0 = fun j => ((sp j).fix).getD undef := ⟨_, rfl⟩
  have hfx0 : ∀ j x, (sp j).fix = some x → vs0 j = x := fun j x hj => by rw [hvs0]; simp only [hj, Option.getD_some]
  have key := fun (vs : Nat → Value) (hfx : ∀ j x, (sp j).fix = some x → vs j = x) => OblS.all (P := P) (ops := l.toArray) (a0 := a) sp vs hfx S (l.take m) 0 [] (fun j s hj => by rw [hsp]; simp [hj])
    (fun j o hj => by
      have hjm : j < m := by have := (List.getElem?_eq_some_iff.1 hj).1; simp at this; omega
      simp only [List.getElem?_take, hjm, if_true] at hj
      simpa using hj) (fun p hp => absurd hp List.not_mem_nil) h
  have hlen : (l.take m).length = m := by simp; omega
  have hcut := fun (vs : Nat → Value) i (hi : i ≤ m) => canon_cut (ops := l.toArray) (vs := vs) (s := fun _ => true) (a := a) m hi
  have e0 : a = canon l.toArray vs0 (selOf (Array.replicate l.toArray.size false)) a m := by
    have e1 : canon l.toArray vs0 (selOf (Array.replicate l.toArray.size false)) a m = canon l.toArray vs0 (fun j => decide (j < 0) && true) a m :=
      canon_congr m (fun j hj => ⟨by simp [selOf, show j < l.length by omega], fun _ => rfl⟩)
    rw [e1, hcut vs0 0 (by omega)]; rfl
  have hm2 : i2 < m := by rw [← hSm]; exact (List.getElem?_eq_some_iff.1 hS2).1
  have look : ∀ vs (sel : Nat → Bool) i o d, i < m → sel i = true → l[i]? = some o → o.dst = some d → d < a.tmps.size → (canon l.toArray vs sel a m).tmps[d]? = some (vs i) := fun vs sel i o d hi hsi ho hd hz => by
    have ho' : l.toArray[i]? = some o := by simpa using ho
    have hdst : dstOf l.toArray i = o.dst := by simp [dstOf, ho]
    have hdis : ∀ k, k < m → k ≠ i → ∀ d, dstOf l.toArray k = some d → dstOf l.toArray i ≠ some d := fun k hk hne d hd => by
      rw [hdst]; exact ((freeB_spec hF ho').apart hi k hk hne d hd).1
    have e1 := canon_put (ops := l.toArray) (vs := vs) (sel := fun k => sel k && some i != some k) (a := a) (i := i) (by simp) m hi hdis
    have e2 : (fun j => (sel j && some i != some j) || j == i) = sel := by
      funext j
      by_cases hj : j = i
      · simp [hj, hsi]
      · have q1 : (some i != some j) = true := by simpa using Ne.symm hj
        have q2 : (j == i) = false := by simpa using hj
        simp only [q1, q2, Bool.and_true, Bool.or_false]
    rw [e2] at e1
    rw [e1, hdst, hd]
    have hzz := (canon_size (ops := l.toArray) (vs := vs) (sel := fun k => sel k && some i != some k) (a := a) m).1
    simp [Act.put, hzz, hz]
  have hWw : ∀ o, l.toArray[i2]? = some o → waits o i1 = true := fun o ho => by
    have : o = o2 := by simpa [h2] using ho.symm
    rw [this]; exact hw12
  have := free_anyE (P := P) (ops := l.toArray) (m := m) i1 i2 E h12 hm2 hWw hF hT (Q := Q) (a := a) (w0 := w) sp
    (fun i hi => by
      have ho : ∃ o, l.toArray[i]? = some o := ⟨_, Array.getElem?_eq_getElem (by simp; omega)⟩
      obtain ⟨o, ho⟩ := ho
      exact ((key vs0 hfx0).1 i o (by omega) (by rw [hlen]; omega) ho).1)
    (fun i o hi ho vs w' hfx hB hw => by
      have hM := ((key vs hfx).1 i o (by omega) (by rw [hlen]; omega) ho).2 w' hB hw
      rw [← hcut vs i (by omega)] at hM
      have hM : MkS P l.toArray (sp i) o (canon l.toArray vs (fun j => decide (j < i)) a m) w' := by simpa using hM
      by_cases hi2 : i = i2
      · subst hi2
        have ho2 : o = o2 := by simpa [h2] using ho.symm
        subst ho2
        have hs1 : sp i1 = .r R1 := by rw [hsp]; simp [hS1]
        have hs2 : sp i = .r R2 := by rw [hsp]; simp [hS2]
        have hsa : sp ia = .v va := by rw [hsp]; simp [hSa]
        have hr1 := hw i1 h12 hw12
        rw [hs1] at hr1
        have ht := look vs (fun j => decide (j < i)) ia oa da (by omega) (by simpa using ha2) hla hda hza
        rw [hfx ia va (by rw [hsa]; rfl)] at ht
        refine .inl ⟨by simp [Region.wanted, hg2], ?_⟩
        unfold Oper.wp
        rw [hx _ w' ht]
        exact (hE w' (vs i1) hB hr1).mono fun e w'' ⟨v, e1, ⟨e2, e3⟩, e4⟩ => by subst e1; exact ⟨v, rfl, ⟨by rw [hs2]; exact e2, fun _ => e3⟩, e4⟩
      · rcases hM with ⟨q1, q2⟩ | ⟨q1, q2⟩
        · exact .inl ⟨q1, Oper.wp_mono (fun a' w' ⟨v, q1, q2, q3⟩ => ⟨v, q1, ⟨q2, fun hh => absurd hh hi2⟩, q3⟩) q2⟩
        · exact .inr ⟨q1, q2, fun hh => absurd hh hi2⟩)
    (fun vs w' hfx hB hw hee => by
      obtain ⟨H', k2, k3⟩ := (key vs hfx).2.2
      rw [hlen, Nat.zero_add] at k3
      simpa using k3 w' hB (fun p hp => by
        obtain ⟨j, R, rfl, e2, e3⟩ := k2 p hp
        have := hw j (by rw [hlen] at e2; omega)
        rw [e3] at this; exact this) (by
        rw [look vs _ i1 o1 d1 (by omega) rfl h1 hd1 hz1, look vs _ i2 o2 d2 hm2 rfl h2 hd2 hz2]
        intro x y hx hy
        cases hx; cases hy
        exact hee)) (by simpa using hms)
    l.toArray.size (Array.replicate l.toArray.size false) vs0 { w with drawn := w.drawn + 1 } (head0 m)
    (by have := count_le (p := fun j => !selOf (Array.replicate l.toArray.size false) j) m; simp only [List.size_toArray] at *; omega) hfx0 (Below.refl _ w).drew
    (fun j hj hs => by simp [selOf, show j < l.length by omega] at hs) (fun hs => by simp [selOf, show i2 < l.length by omega] at hs)
  rw [← e0] at this
  exact this

theorem wp_looseE {id : Nat} (m : Nat) (S : List Spec) (E : Value → Value → Prop) (i1 i2 ia d1 d2 da : Nat) (f : FuncId) (va : Value) (R1 R2 : Value → World → Prop) {o1 o2 oa : Oper} (h12 : i1 < i2) (ha2 : ia < i2) (hla : l[ia]? = some oa) (hda : oa.dst = some da) (hza : da < a.tmps.size) (hSa : S[ia]? = some (.v va))
    (h1 : l[i1]? = some o1) (h2 : l[i2]? = some o2) (hd1 : o1.dst = some d1) (hd2 : o2.dst = some d2) (hS1 : S[i1]? = some (.r R1)) (hS2 : S[i2]? = some (.r R2)) (hz1 : d1 < a.tmps.size) (hz2 : d2 < a.tmps.size) (hw12 : waits o2 i1 = true) (hg2 : o2.guard = none)
    (hx : ∀ (b : Act) w', b.tmps[da]? = some va → (execOp b.eval o2).run P w' = .ok (.enter f #[va]) w')
    (hE : ∀ w' v1, Below w.heap.size w w' → R1 v1 w' → Calls P f #[va] w' fun e w'' => ∃ v, e = .returned v ∧ (R2 v w'' ∧ E v1 v) ∧ Below w'.heap.size w' w'')
    (hm : P.follows .mixedOrders = true) (hF : freeB l.toArray m none = true) (hT : tailB l.toArray m = true) (hms : m ≤ l.length) (hSm : S.length = m)
    (h : ∀ K : Act → Hyps → Prop, (∀ a' H, (∀ w', Below w.heap.size w w' → (∀ p ∈ H, p.2 w') → (∀ x y, a'.tmps[d1]? = some x → a'.tmps[d2]? = some y → E x y) → wpList P l.toArray Q (l.drop m) a' w') → K a' H) → OblS P l.toArray w 0 S (l.take m) a [] K) : (Code.region id l.toArray true).wp P Q a w :=
  wp_region_any hm (any_looseE S E i1 i2 ia d1 d2 da f va R1 R2 h12 ha2 hla hda hza hSa h1 h2 hd1 hd2 hS1 hS2 hz1 hz2 hw12 hg2 hx hE hF hT hms hSm (h _ fun _ _ h => h))
end
end Go.Proofs
namespace Go.Proofs
open Go.RowKit
abbrev GRel := Nat → (Nat → Value) → Value → Prop
section
variable {P : Program} {ops : Array Oper}

theorem free_anyG {m : Nat} (G : GRel) (hG : ∀ i o u u' v, i < m → ops[i]? = some o → (∀ j, j < i → waits o j = true → u j = u' j) → G i u v → G i u' v) (hF : freeB ops m none = true) (hT : tailB ops m = true) {Q : Exit → Act → World → Prop} {a : Act} {w0 : World} (sp : Nat → Spec) (hst : ∀ i, i < m → (sp i).stable)
    (hN : ∀ i o, i < m → ops[i]? = some o → ∀ vs w, (∀ j x, (sp j).fix = some x → vs j = x) → Below w0.heap.size w0 w → (∀ j, j < i → waits o j = true → (sp j).holds (vs j) w ∧ G j vs (vs j)) → MkS P ops (.r fun v w' => (sp i).holds v w' ∧ G i vs v) o (canon ops vs (fun j => decide (j < i)) a m) w)
    (hK : ∀ vs w, (∀ j x, (sp j).fix = some x → vs j = x) → Below w0.heap.size w0 w → (∀ j, j < m → (sp j).holds (vs j) w ∧ G j vs (vs j)) → wpList P ops Q (ops.toList.drop m) (canon ops vs (fun _ => true) a m) w) (hms : m ≤ ops.size) :
    ∀ (f : Nat) (listed : Array Bool) (vs : Nat → Value) (w : World), HeadInv .any ops m listed → (List.range m).countP (fun j => !selOf listed j) + (ops.size - m) ≤ f → (∀ j x, (sp j).fix = some x → vs j = x) →
      Below w0.heap.size w0 w → (∀ j, j < m → selOf listed j = true → (sp j).holds (vs j) w) → (∀ i o j, i < m → ops[i]? = some o → j < i → waits o j = true → selOf listed i = true → selOf listed j = true) → (∀ j, j < m → selOf listed j = true → G j vs (vs j)) → wpAny P .any ops Q f listed (canon ops vs (selOf listed) a m) w := by
  intro f
  induction f with
  | zero =>
    intro listed vs w inv hf hfx hB hq hcl hee
    have hall : ∀ j, j < m → selOf listed j = true := fun j hj => by
      have h0 : (List.range m).countP (fun j => !selOf listed j) = 0 := by omega
      have := List.countP_eq_zero.1 h0 j (List.mem_range.2 hj)
      simpa using this
    rw [canon_congr (vs' := vs) (sel' := fun _ => true) m (fun j hj => ⟨hall j hj, fun _ => rfl⟩)]
    exact tail_any hF hT 0 m listed _ w (Nat.le_refl _) hms (by omega) ⟨inv.size, hall, inv.tail⟩ (hK vs w hfx hB (fun j hj => ⟨hq j hj (hall j hj), hee j hj (hall j hj)⟩))
  | succ f ih =>
    intro listed vs w inv hf hfx hB hq hcl hee
    by_cases hall : ∀ j, j < m → selOf listed j = true
    · rw [canon_congr (vs' := vs) (sel' := fun _ => true) m (fun j hj => ⟨hall j hj, fun _ => rfl⟩)]
      exact tail_any hF hT (f + 1) m listed _ w (Nat.le_refl _) hms (by omega) ⟨inv.size, hall, inv.tail⟩ (hK vs w hfx hB (fun j hj => ⟨hq j hj (hall j hj), hee j hj (hall j hj)⟩))
    · have hex : ∃ j, j < m ∧ selOf listed j = false ∧ ∀ k, k < j → selOf listed k = true := by
        have h1 : ∃ j, j < m ∧ selOf listed j = false := by
          refine Classical.byContradiction fun hno => hall fun j hj => ?_
          cases hs : selOf listed j with
          | true => rfl
          | false => exact absurd ⟨j, hj, hs⟩ hno
        obtain ⟨j, hj⟩ := h1
        induction j using Nat.strongRecOn with
        | _ j ihj =>
          by_cases hk : ∀ k, k < j → selOf listed k = true
          · exact ⟨j, hj.1, hj.2, hk⟩
          · have : ∃ k, k < j ∧ selOf listed k = false := by
              refine Classical.byContradiction fun hno => hk fun k hk' => ?_
              cases hs : selOf listed k with
              | true => rfl
              | false => exact absurd ⟨k, hk', hs⟩ hno
            obtain ⟨k, hk1, hk2⟩ := this
            exact ihj k hk1 ⟨by omega, hk2⟩
      obtain ⟨j, hjm, hju, hjb⟩ := hex
      obtain ⟨oj, hoj⟩ : ∃ oj, ops[j]? = some oj := ⟨_, Array.getElem?_eq_getElem (by omega)⟩
      have hjr : j ∈ Region.ready .any ops listed := mem_ready.2 ⟨hju, oj, hoj, fun e he hb => by
        have h1 := (freeB_spec hF hoj).back e he hb
        have h2 := hjb e.on h1
        have h3 : e.on < listed.size := by rw [inv.size]; omega
        unfold selOf at h2
        simp [h3] at h2 ⊢; exact h2⟩
      refine ⟨fun h0 => absurd hjr (by rw [h0]; exact List.not_mem_nil), fun i hi => ?_⟩
      obtain ⟨hu, o, ho, hafter⟩ := mem_ready.1 hi
      have hisz : i < ops.size := (Array.getElem?_eq_some_iff.1 ho).1
      have him : i < m := by
        unfold tailB at hT
        simp only [Bool.or_eq_true, decide_eq_true_eq, Bool.and_eq_true] at hT
        rcases hT with hT | ⟨⟨hlt, hs⟩, hc⟩
        · omega
        · exact Nat.lt_of_not_le fun hge => tail_waits hs hc hlt inv _ j rfl hjm hju i hge hi
      have hF' := freeB_spec hF ho
      have hdst : dstOf ops i = o.dst := by simp [dstOf, ho]
      have hdis : ∀ k, k < m → k ≠ i → ∀ d, dstOf ops k = some d → dstOf ops i ≠ some d := fun k hk hne d hd => by
        rw [hdst]; exact (hF'.apart him k hk hne d hd).1
      have hsel' : selOf (listed.setIfInBounds i true) = fun k => selOf listed k || k == i := by
        funext k
        unfold selOf
        by_cases hki : k = i
        · subst hki
          have : k < listed.size := by rw [inv.size]; exact hisz
          simp [this]
        · rw [getD_set_ne true (Ne.symm hki)]
          simp [hki]
      have hcount : (List.range m).countP (fun k => !selOf (listed.setIfInBounds i true) k) < (List.range m).countP (fun k => !selOf listed k) := by
        refine countP_lt (x := i) (List.mem_range.2 him) (fun y hy => ?_) (by simp [selOf, hu]) (by rw [hsel']; simp)
        rw [hsel'] at hy
        simp at hy
        simp [hy.1]
      have hsz : ∀ vs' sel', (canon ops vs' sel' a m).tmps.size = a.tmps.size := fun vs' sel' => (canon_size m).1
      have hev := looks_eval (vs := vs) (vs' := vs) (a := a) hF ho him inv hms hi (fun k _ => rfl)
      have hsame : (fun j => decide (j < i) && (none : Option Nat) != some j) = fun j => decide (j < i) := by funext j; simp
      rw [hsame] at hev
      obtain ⟨he, hw⟩ := getLooks (ops := ops) (o := o) hF'.sel (by rw [hsz, hsz]) hev
      have hlist : ∀ j, j < i → waits o j = true → selOf listed j = true := fun j hj hwt => by
        obtain ⟨e, he', hb', hon⟩ := waits_spec hwt
        have h5 := hafter e he' hb'
        rw [hon] at h5
        have hjs : j < listed.size := by rw [inv.size]; omega
        unfold selOf
        simp [hjs] at h5 ⊢; exact h5
      refine (hN i o him ho vs w hfx hB (fun j hj hwt => ⟨hq j (by omega) (hlist j hj hwt), hee j (by omega) (hlist j hj hwt)⟩)).wpOp ho (by rw [hsz, hsz]) he hw (fun v w' hv0 hb => ?_)
      obtain ⟨hv, hvE⟩ := hv0
      have e1 : canon ops vs (selOf listed) a m = canon ops (fun k => if k = i then v else vs k) (selOf listed) a m :=
        canon_congr m (fun k hk => ⟨rfl, fun hs => by
          have : k ≠ i := fun h' => by subst h'; unfold selOf at hs; rw [hu] at hs; cases hs
          simp [this]⟩)
      have e2 : (canon ops vs (selOf listed) a m).put o.dst v = canon ops (fun k => if k = i then v else vs k) (selOf (listed.setIfInBounds i true)) a m := by
        rw [hsel', canon_put hu m him hdis, e1, hdst]
        simp
      rw [e2]
      refine ih _ _ w' (inv.set hi him) (by omega) (fun k x hk => ?_) (hB.trans (hb.mono hB.size)) (fun k hk hs => ?_) (fun k ok kj hk hok hkj hwk hs => ?_) (fun k hk hs => ?_)
      · by_cases hki : k = i
        · subst hki; simp only [if_true]; exact Spec.holds_fix hk hv
        · simp only [if_neg hki]; exact hfx k x hk
      · by_cases hki : k = i
        · subst hki; simp only [if_true]; exact hv
        · simp only [if_neg hki]
          have hk2 : selOf listed k = true := by
            rw [hsel'] at hs
            simpa [hki] using hs
          exact Spec.keep (hst k hk) (hq k hk hk2) hb
      · by_cases hki : k = i
        · subst hki
          have : ok = o := Option.some.inj (hok.symm.trans ho)
          subst this
          rw [hsel']; simp [hlist kj hkj hwk]
        · have hk2 : selOf listed k = true := by
            rw [hsel'] at hs
            simpa [hki] using hs
          rw [hsel']; simp [hcl k ok kj hk hok hkj hwk hk2]
      · by_cases hki : k = i
        · subst hki
          simp only [if_true]
          refine hG k o vs _ v hk ho (fun j hj _ => ?_) hvE
          rw [if_neg (by omega)]
        · simp only [if_neg hki]
          have hk2 : selOf listed k = true := by
            rw [hsel'] at hs
            simpa [hki] using hs
          obtain ⟨ok, hok⟩ : ∃ ok, ops[k]? = some ok := ⟨_, Array.getElem?_eq_getElem (by omega)⟩
          refine hG k ok vs _ (vs k) hk hok (fun j hj hwj => ?_) (hee k hk hk2)
          have hlj := hcl k ok j hk hok hj hwj hk2
          have : j ≠ i := fun h => by rw [h] at hlj; unfold selOf at hlj; rw [hu] at hlj; cases hlj
          rw [if_neg this]
end
end Go.Proofs
namespace Go.Proofs
open Go.RowKit
section
variable {P : Program} {ops : Array Oper}
def setU (u : Nat → Value) (i : Nat) (x : Value) : Nat → Value := fun k => if k = i then x else u k
/-- As OblS, where a loose value may stand in a relation to earlier values. -/
def OblG (P : Program) (ops : Array Oper) (w0 : World) (G : GRel) : Nat → List Spec → List Oper → Act → Hyps → (Nat → Value) → (Act → Hyps → Prop) → Prop
  | _, [], [], a, H, _, K => K a H
  | i, .v x :: S, o :: r, a, H, u, K => (∀ w, Below w0.heap.size w0 w → (∀ p ∈ H, waits o p.1 = true → p.2 w) → MkS P ops (.v x) o a w) ∧ OblG P ops w0 G (i + 1) S r (a.put o.dst x) H (setU u i x) K
  | i, .r R :: S, o :: r, a, H, u, K => (Spec.r R).stable ∧ (∀ w, Below w0.heap.size w0 w → (∀ p ∈ H, waits o p.1 = true → p.2 w) → MkS P ops (.r fun v w' => R v w' ∧ G i u v) o a w) ∧ ∀ v, OblG P ops w0 G (i + 1) S r (a.put o.dst v) ((i, fun w => R v w ∧ G i u v) :: H) (setU u i v) K
  | _, _, _, _, _, _, _ => False

theorem MkS.imp {s t : Spec} {o : Oper} {a : Act} {w : World} (h : MkS P ops s o a w) (hst : ∀ v w', s.holds v w' → t.holds v w') : MkS P ops t o a w := by
  rcases h with ⟨q1, q2⟩ | ⟨q1, q2⟩
  · exact .inl ⟨q1, Oper.wp_mono (fun a' w' ⟨v, q1, q2, q3⟩ => ⟨v, q1, hst _ _ q2, q3⟩) q2⟩
  · exact .inr ⟨q1, hst _ _ q2⟩

theorem OblG.all {w0 : World} {a0 : Act} {m : Nat} {G : GRel} (hG : ∀ i o u u' v, i < m → ops[i]? = some o → (∀ j, j < i → waits o j = true → u j = u' j) → G i u v → G i u' v) {K : Act → Hyps → Prop} (sp : Nat → Spec) (hGv : ∀ j x, sp j = .v x → ∀ u v, G j u v) (vs : Nat → Value) (hfx : ∀ j x, (sp j).fix = some x → vs j = x) :
    ∀ (S : List Spec) (l : List Oper) (i : Nat) (H : Hyps) (u : Nat → Value), (∀ j s, S[j]? = some s → sp (i + j) = s) → (∀ j o, l[j]? = some o → ops[i + j]? = some o) → i + l.length ≤ m → (∀ j, j < i → u j = vs j) →
    (∀ p ∈ H, p.1 < i ∧ ∀ w, ((sp p.1).holds (vs p.1) w ∧ G p.1 vs (vs p.1)) → p.2 w) → OblG P ops w0 G i S l (canon ops vs (fun _ => true) a0 i) H u K →
    (∀ j o, i ≤ j → j < i + l.length → ops[j]? = some o → (sp j).stable ∧ ∀ w, Below w0.heap.size w0 w → (∀ k, k < j → waits o k = true → (sp k).holds (vs k) w ∧ G k vs (vs k)) → MkS P ops (.r fun v w' => (sp j).holds v w' ∧ G j vs v) o (canon ops vs (fun _ => true) a0 j) w) ∧
    ∃ H', (∀ p ∈ H', p.1 < i + l.length ∧ ∀ w, ((sp p.1).holds (vs p.1) w ∧ G p.1 vs (vs p.1)) → p.2 w) ∧ K (canon ops vs (fun _ => true) a0 (i + l.length)) H'
  | [], [], i, H, u, _, _, _, _, hH, h => ⟨fun j o h1 h2 => by simp at h2; omega, H, by simpa using hH, h⟩
  | [], _ :: _, _, _, _, _, _, _, _, _, h => h.elim
  | .v _ :: _, [], _, _, _, _, _, _, _, _, h => h.elim
  | .p _ :: _, [], _, _, _, _, _, _, _, _, h => h.elim
  | .r _ :: _, [], _, _, _, _, _, _, _, _, h => h.elim
  | .p _ :: _, _ :: _, _, _, _, _, _, _, _, _, h => h.elim
  | .v x :: S, o :: r, i, H, u, hS, hl, hm, hu, hH, h => by
    obtain ⟨h1, h2⟩ := h
    have hi : ops[i]? = some o := by simpa using hl 0 o rfl
    have hd : dstOf ops i = o.dst := by simp [dstOf, hi]
    have hsp : sp i = .v x := by simpa using hS 0 _ rfl
    have hvx : vs i = x := hfx i x (by rw [hsp]; rfl)
    have e : canon ops vs (fun _ => true) a0 (i + 1) = (canon ops vs (fun _ => true) a0 i).put o.dst x := by simp [canon, hd, hvx]
    rw [← e] at h2
    have hlen : i + (o :: r).length = i + 1 + r.length := by simp; omega
    obtain ⟨k1, H', k2, k3⟩ := OblG.all hG sp hGv vs hfx S r (i + 1) H (setU u i x) (fun j s hj => by have := hS (j + 1) s (by simpa using hj); rw [show i + 1 + j = i + (j + 1) by omega]; exact this)
      (fun j o' hj => by have := hl (j + 1) o' (by simpa using hj); rw [show i + 1 + j = i + (j + 1) by omega]; exact this) (by omega)
      (fun j hj => by unfold setU; by_cases hji : j = i; rw [if_pos hji, hji, hvx]; rw [if_neg hji]; exact hu j (by omega))
      (fun p hp => ⟨by have := (hH p hp).1; omega, (hH p hp).2⟩) h2
    refine ⟨fun j o' hj1 hj2 ho' => ?_, H', fun p hp => ?_, ?_⟩
    · by_cases hji : j = i
      · subst hji
        have : o' = o := Option.some.inj (ho'.symm.trans hi)
        subst this
        refine ⟨by rw [hsp]; trivial, fun w hB hw => ?_⟩
        refine (h1 w hB (fun p hp hwt => (hH p hp).2 w (hw p.1 (hH p hp).1 hwt))).imp (fun v w' hv => ?_)
        exact ⟨by rw [hsp]; exact hv, hGv j x hsp vs v⟩
      · exact k1 j o' (by omega) (by omega) ho'
    · rw [hlen]; exact k2 p hp
    · rw [hlen]; exact k3
  | .r R0 :: S, o :: r, i, H, u, hS, hl, hm, hu, hH, h => by
    obtain ⟨h0, h1, h2'⟩ := h
    have h2 := h2' (vs i)
    have hi : ops[i]? = some o := by simpa using hl 0 o rfl
    have hd : dstOf ops i = o.dst := by simp [dstOf, hi]
    have hsp : sp i = .r R0 := by simpa using hS 0 _ rfl
    have e : canon ops vs (fun _ => true) a0 (i + 1) = (canon ops vs (fun _ => true) a0 i).put o.dst (vs i) := by simp [canon, hd]
    rw [← e] at h2
    have hlen : i + (o :: r).length = i + 1 + r.length := by simp; omega
    have him : i < m := by omega
    obtain ⟨k1, H', k2, k3⟩ := OblG.all hG sp hGv vs hfx S r (i + 1) ((i, fun w => R0 (vs i) w ∧ G i u (vs i)) :: H) (setU u i (vs i)) (fun j s hj => by have := hS (j + 1) s (by simpa using hj); rw [show i + 1 + j = i + (j + 1) by omega]; exact this)
      (fun j o' hj => by have := hl (j + 1) o' (by simpa using hj); rw [show i + 1 + j = i + (j + 1) by omega]; exact this) (by omega)
      (fun j hj => by unfold setU; by_cases hji : j = i; rw [if_pos hji, hji]; rw [if_neg hji]; exact hu j (by omega))
      (fun p hp => by
        rcases List.mem_cons.1 hp with rfl | hp
        · refine ⟨by simp, fun w hw => ?_⟩
          simp only [hsp] at hw
          exact ⟨hw.1, hG i o vs u _ him hi (fun j hj _ => (hu j hj).symm) hw.2⟩
        · exact ⟨by have := (hH p hp).1; omega, (hH p hp).2⟩) h2
    refine ⟨fun j o' hj1 hj2 ho' => ?_, H', fun p hp => ?_, ?_⟩
    · by_cases hji : j = i
      · subst hji
        have : o' = o := Option.some.inj (ho'.symm.trans hi)
        subst this
        refine ⟨by rw [hsp]; exact h0, fun w hB hw => ?_⟩
        refine (h1 w hB (fun p hp hwt => (hH p hp).2 w (hw p.1 (hH p hp).1 hwt))).imp (fun v w' hv => ?_)
        exact ⟨by rw [hsp]; exact hv.1, hG j o' u vs v him hi (fun k hk _ => hu k hk) hv.2⟩
      · exact k1 j o' (by omega) (by omega) ho'
    · rw [hlen]; exact k2 p hp
    · rw [hlen]; exact k3
end
section
variable {P : Program} {l : List Oper} {Q : Exit → Act → World → Prop} {a : Act} {w : World}

theorem any_looseG {m : Nat} (G : GRel) (S : List Spec) (hF : freeB l.toArray m none = true) (hT : tailB l.toArray m = true) (hms : m ≤ l.length) (hSm : S.length = m)
    (hG : ∀ i o u u' v, i < m → l[i]? = some o → (∀ j, j < i → waits o j = true → u j = u' j) → G i u v → G i u' v) (hGv : ∀ j x, S[j]? = some (.v x) → ∀ u v, G j u v) (hG0 : ∀ j, S.length ≤ j → ∀ u v, G j u v)
    (h : OblG P l.toArray w G 0 S (l.take m) a [] (fun _ => undef) (fun a' H => ∀ w', Below w.heap.size w w' → (∀ p ∈ H, p.2 w') → wpList P l.toArray Q (l.drop m) a' w')) :
    wpAny P .any l.toArray Q l.toArray.size (Array.replicate l.toArray.size false) a { w with drawn := w.drawn + 1 } := by
  obtain ⟨sp, hsp⟩ : ∃ sp : Nat → Spec, sp = fun j => S.getD j (.v undef) := ⟨_, rfl⟩
  obtain ⟨vs0, hvs0⟩ : ∃ vs0 : Nat → Value, vs0 = fun j => ((sp j).fix).getD undef := ⟨_, rfl⟩
  have hfx0 : ∀ j x, (sp j).fix = some x → vs0 j = x := fun j x hj => by rw [hvs0]; simp only [hj, Option.getD_some]
  have hG' : ∀ i o u u' v, i < m → l.toArray[i]? = some o → (∀ j, j < i → waits o j = true → u j = u' j) → G i u v → G i u' v := fun i o u u' v hi ho => hG i o u u' v hi (by simpa using ho)
  have hGv' : ∀ j x, sp j = .v x → ∀ u v, G j u v := fun j x hj u v => by
    by_cases hjs : j < S.length
    · refine hGv j x ?_ u v
      rw [hsp] at hj
      simp only [List.getD_eq_getElem?_getD, List.getElem?_eq_getElem hjs, Option.getD_some] at hj
      rw [List.getElem?_eq_getElem hjs, hj]
    · exact hG0 j (by omega) u v
  have hlen : (l.take m).length = m := by simp; omega
  have key := fun (vs : Nat → Value) (hfx : ∀ j x, (sp j).fix = some x → vs j = x) => OblG.all (P := P) (ops := l.toArray) (a0 := a) hG' sp hGv' vs hfx S (l.take m) 0 [] (fun _ => undef) (fun j s hj => by rw [hsp]; simp [hj])
    (fun j o hj => by
      have hjm : j < m := by have := (List.getElem?_eq_some_iff.1 hj).1; simp at this; omega
      simp only [List.getElem?_take, hjm, if_true] at hj
      simpa using hj) (by omega) (fun j hj => absurd hj (by omega)) (fun p hp => absurd hp List.not_mem_nil) h
  have hcut := fun (vs : Nat → Value) i (hi : i ≤ m) => canon_cut (ops := l.toArray) (vs := vs) (s := fun _ => true) (a := a) m hi
  have e0 : a = canon l.toArray vs0 (selOf (Array.replicate l.toArray.size false)) a m := by
    have e1 : canon l.toArray vs0 (selOf (Array.replicate l.toArray.size false)) a m = canon l.toArray vs0 (fun j => decide (j < 0) && true) a m :=
      canon_congr m (fun j hj => ⟨by simp [selOf, show j < l.length by omega], fun _ => rfl⟩)
    rw [e1, hcut vs0 0 (by omega)]; rfl
  have := free_anyG (P := P) (ops := l.toArray) (m := m) G hG' hF hT (Q := Q) (a := a) (w0 := w) sp
    (fun i hi => by
      have ho : ∃ o, l.toArray[i]? = some o := ⟨_, Array.getElem?_eq_getElem (by simp; omega)⟩
      obtain ⟨o, ho⟩ := ho
      exact ((key vs0 hfx0).1 i o (by omega) (by rw [hlen]; omega) ho).1)
    (fun i o hi ho vs w' hfx hB hw => by
      have := ((key vs hfx).1 i o (by omega) (by rw [hlen]; omega) ho).2 w' hB hw
      rw [← hcut vs i (by omega)] at this
      simpa using this)
    (fun vs w' hfx hB hw => by
      obtain ⟨H', k2, k3⟩ := (key vs hfx).2
      rw [hlen, Nat.zero_add] at k3
      simpa using k3 w' hB (fun p hp => (k2 p hp).2 w' (hw p.1 (by have := (k2 p hp).1; omega)))) (by simpa using hms)
    l.toArray.size (Array.replicate l.toArray.size false) vs0 { w with drawn := w.drawn + 1 } (head0 m)
    (by have := count_le (p := fun j => !selOf (Array.replicate l.toArray.size false) j) m; simp only [List.size_toArray] at *; omega) hfx0 (Below.refl _ w).drew
    (fun j hj hs => by simp [selOf, show j < l.length by omega] at hs) (fun i o j hi _ _ _ hs => by simp [selOf, show i < l.length by omega] at hs) (fun j hj hs => by simp [selOf, show j < l.length by omega] at hs)
  rw [← e0] at this
  exact this

/-- On which earlier values a word depends: only on those that the operation waits for. -/
def depsB (l : List Oper) (m : Nat) (D : Nat → List Nat) : Bool := (List.range m).all fun i => match l[i]? with | some o => (D i).all fun j => decide (j < i) && waits o j | none => true
theorem wp_looseG {id : Nat} (m : Nat) (G : GRel) (D : Nat → List Nat) (S : List Spec) (hm : P.follows .mixedOrders = true) (hF : freeB l.toArray m none = true) (hT : tailB l.toArray m = true) (hms : m ≤ l.length) (hSm : S.length = m)
    (hD : depsB l m D = true) (hG : ∀ i u u' v, (∀ j ∈ D i, u j = u' j) → G i u v → G i u' v) (hGv : ∀ j x, S[j]? = some (.v x) → ∀ u v, G j u v) (hG0 : ∀ j, m ≤ j → ∀ u v, G j u v)
    (h : ∀ K : Act → Hyps → Prop, (∀ a' H, (∀ w', Below w.heap.size w w' → (∀ p ∈ H, p.2 w') → wpList P l.toArray Q (l.drop m) a' w') → K a' H) → OblG P l.toArray w G 0 S (l.take m) a [] (fun _ => undef) K) : (Code.region id l.toArray true).wp P Q a w := by
  refine wp_region_any hm (any_looseG G S hF hT hms hSm (fun i o u u' v hi ho hu => hG i u u' v (fun j hj => ?_)) hGv (fun j hj => hG0 j (by omega)) (h _ fun _ _ h => h))
  unfold depsB at hD
  have := List.all_eq_true.1 hD i (List.mem_range.2 hi)
  rw [ho] at this
  have := List.all_eq_true.1 this j hj
  simp only [Bool.and_eq_true, decide_eq_true_eq] at this
  exact hu j this.1 this.2

variable {ops : Array Oper} {w0 : World} {G : GRel} {u : Nat → Value} {i : Nat} {o : Oper} {r : List Oper} {S : List Spec} {H : Hyps} {K : Act → Hyps → Prop}
theorem OblG.val {v : Value} (hg : Region.wanted o (yielded ops a.tmps) = true)
    (hr : ∀ w, Below w0.heap.size w0 w → (∀ p ∈ H, waits o p.1 = true → p.2 w) → (execOp a.eval o).run P w = .ok (.value v) w) (h : OblG P ops w0 G (i + 1) S r (a.put o.dst v) H (setU u i v) K) : OblG P ops w0 G i (.v v :: S) (o :: r) a H u K :=
  ⟨fun w hB hH => .inl ⟨hg, by unfold Oper.wp; rw [hr w hB hH]; exact ⟨v, rfl, rfl, Below.refl _ _⟩⟩, h⟩
theorem OblG.callR {R : Value → World → Prop} (f : FuncId) (hst : ∀ v w w', R v w → Below w.heap.size w w' → R v w') (hg : Region.wanted o (yielded ops a.tmps) = true)
    (hr : ∀ w, Below w0.heap.size w0 w → (∀ p ∈ H, waits o p.1 = true → p.2 w) → ∃ args, (execOp a.eval o).run P w = .ok (.enter f args) w ∧ Calls P f args w fun e w' => ∃ v, e = .returned v ∧ (R v w' ∧ G i u v) ∧ Below w.heap.size w w')
    (h : ∀ v, OblG P ops w0 G (i + 1) S r (a.put o.dst v) ((i, fun w => R v w ∧ G i u v) :: H) (setU u i v) K) : OblG P ops w0 G i (.r R :: S) (o :: r) a H u K :=
  ⟨hst, fun w hB hH => .inl ⟨hg, by
    obtain ⟨args, h1, h2⟩ := hr w hB hH
    unfold Oper.wp; rw [h1]
    exact h2.mono fun e w' ⟨v, he, hR, hb'⟩ => by subst he; exact ⟨v, rfl, hR, hb'⟩⟩, h⟩
theorem OblG.run {R : Value → World → Prop} (hst : ∀ v w w', R v w → Below w.heap.size w w' → R v w') (hg : Region.wanted o (yielded ops a.tmps) = true)
    (hr : ∀ w, Below w0.heap.size w0 w → (∀ p ∈ H, waits o p.1 = true → p.2 w) → ∃ v w', (execOp a.eval o).run P w = .ok (.value v) w' ∧ (R v w' ∧ G i u v) ∧ Below w.heap.size w w')
    (h : ∀ v, OblG P ops w0 G (i + 1) S r (a.put o.dst v) ((i, fun w => R v w ∧ G i u v) :: H) (setU u i v) K) : OblG P ops w0 G i (.r R :: S) (o :: r) a H u K :=
  ⟨hst, fun w hB hH => .inl ⟨hg, by
    obtain ⟨v, w', h1, h2, h3⟩ := hr w hB hH
    unfold Oper.wp; rw [h1]
    exact ⟨v, rfl, h2, h3⟩⟩, h⟩
theorem OblG.nil (h : K a H) : OblG P ops w0 G i [] [] a H u K := h
theorem OblG.makes {t : TypeId} {z : Array Value} (hA : Makes P o t z) (hg : ∀ v, G i u v) (h : ∀ v, OblG P ops w0 G (i + 1) S r (a.put o.dst v) ((i, fun w => NewR w0 t z v w ∧ G i u v) :: H) (setU u i v) K) : OblG P ops w0 G i (.r (NewR w0 t z) :: S) (o :: r) a H u K :=
  OblG.run NewR.stable (by simp [Region.wanted, hA.guard]) (fun w hB _ => ⟨_, _, hA.run a w, ⟨⟨_, rfl, hB.size, Has.new w t z⟩, hg _⟩, newB (Below.refl _ _) _⟩) h
end
end Go.Proofs
namespace Go.Proofs
open Go.RowKit Go.Shelf
attribute [local go_sem ↓] Go.wp_at_zero Go.wp_at_succ

def cpG (all : Int) : GRel := fun i u v => if i = 5 then (v.ownBlock = none ∨ v.ownBlock ≠ (u 2).ownBlock) else if i = 8 then v = .agg #[.slice none 0 0, u 2, u 5, .int .i64 all] else if i = 9 then v = u 8 else True
def cpD (i : Nat) : List Nat := if i = 5 then [2] else if i = 8 then [2, 5] else if i = 9 then [8] else []
theorem cp_dep (all : Int) (i : Nat) (u u' : Nat → Value) (v : Value) (h : ∀ j ∈ cpD i, u j = u' j) (hg : cpG all i u v) : cpG all i u' v := by
  unfold cpG at *
  unfold cpD at h
  split
  · rename_i h5
    rw [if_pos h5] at h hg
    rw [← h 2 (by simp)]; exact hg
  · rename_i h5
    rw [if_neg h5] at h hg
    split
    · rename_i h8
      rw [if_pos h8] at h hg
      rw [← h 2 (by simp), ← h 5 (by simp)]; exact hg
    · rename_i h8
      rw [if_neg h8] at h hg
      split
      · rename_i h9
        rw [if_pos h9] at h hg
        rw [← h 8 (by simp)]; exact hg
      · trivial
theorem cp_v (all : Int) (v0 v1 v3 v4 v6 v7 : Value) (R2 R5 R8 R9 R10 : Value → World → Prop) (j : Nat) (x : Value) (h : [Spec.v v0, .v v1, .r R2, .v v3, .v v4, .r R5, .v v6, .v v7, .r R8, .r R9, .r R10][j]? = some (.v x)) (u : Nat → Value) (v : Value) : cpG all j u v := by
  unfold cpG
  split
  · rename_i e; subst e; cases h
  · split
    · rename_i e; subst e; cases h
    · split
      · rename_i e; subst e; cases h
      · trivial
theorem cp_0 (all : Int) (j : Nat) (h : 11 ≤ j) (u : Nat → Value) (v : Value) : cpG all j u v := by
  unfold cpG
  rw [if_neg (by omega), if_neg (by omega), if_neg (by omega)]; trivial

set_option maxHeartbeats 2000000 in
set_option maxRecDepth 20000 in
theorem copied_c (m : Bm) (hm : m.Small) (hr : m.b.rows.length ≤ 20) (hrn : ∀ s ∈ m.ss, s.2.1 ≤ 1000000) (w : World) (hi : m.In w) :
    Calls Tryz.prog 113 #[m.val] w fun e w' => ∃ m' : Bm, e = .returned m'.val ∧ m'.b = m.b ∧ BOwn w.heap.size m' w' ∧ Below w.heap.size w w' := by
  have HCA := Lib.hid fun (w' : World) (hb : Below w.heap.size w w') => cloneI_c m.A m.an m.ac m.b.ac (by have := hm.a; omega) w' (hi.ac.keep hb)
  have HCD := Lib.hid fun (w' : World) (hb : Below w.heap.size w w') => cloneI_c m.D m.dn m.dc m.b.dn (by have := hm.d; omega) w' (hi.dn.keep hb)
  have HR := Lib.hid hi.rows
  have HS := Lib.hid hi.hs
  have HRN := Lib.hid hrn
  have hq := hm.r
  obtain ⟨R, A, D, rn, rc, an, ac, dn, dc, ss, ⟨rows, acr, dnr, all⟩⟩ := m
  simp only [Bm.val] at *
  have hal : acr.length = an := hi.ac.1
  have hdl : dnr.length = dn := hi.dn.1
  clear hi hm hrn
  have F1 := Lib.hid ((Has.new w 80 #[.slice R rn rc, .slice A an ac, .slice D dn dc, .int .i64 all]).alloc (.cells #[.slice none 0 0, .slice none 0 0, .slice none 0 0, .int .i64 0] 138))
  have F2 := Lib.hid (Has.new' (w.alloc (.cells #[.slice R rn rc, .slice A an ac, .slice D dn dc, .int .i64 all] 80)) 138 #[.slice none 0 0, .slice none 0 0, .slice none 0 0, .int .i64 0] (g := w.heap.size + 1) (by simp))
  have B0 := Lib.hid (newB (newB (Below.refl w.heap.size w) (.cells #[.slice R rn rc, .slice A an ac, .slice D dn dc, .int .i64 all] 80)) (.cells #[.slice none 0 0, .slice none 0 0, .slice none 0 0, .int .i64 0] 138))
  go_enter Tryz.func113, Tryz.ntmps113
  go_wp2
  generalize (w.alloc (.cells #[.slice R rn rc, .slice A an ac, .slice D dn dc, .int .i64 all] 80)).alloc (.cells #[.slice none 0 0, .slice none 0 0, .slice none 0 0, .int .i64 0] 138) = W0 at *
  have cf := F1.out.cell
  have zf := F1.out.lt
  apply wp_looseG 11 (cpG all) cpD [.v _, .v _, .r (fun v w' => Own eI W0.heap.size v acr w'), .v _, .v _, .r (fun v w' => Own eI W0.heap.size v dnr w'), .v _, .v _, .r (fun _ _ => True), .r (fun _ _ => True), .r (NewR W0 138 #[.slice none 0 0, .slice none 0 0, .slice none 0 0, .int .i64 0])] (by kernel_rfl) (by kernel_rfl) (by kernel_rfl) (by decide) rfl (by kernel_rfl) (cp_dep all) (cp_v all _ _ _ _ _ _ _ _ _ _ _) (cp_0 all)
  intro K hK
  apply OblG.val rfl
  · intro w' hb _; go_simp; rfl
  apply OblG.val rfl
  · intro w' hb _; have := (F1.out.after hb).cell; go_simp; rfl
  apply OblG.callR 154
  · intro v a b h hb; exact h.keep hb
  · rfl
  · intro w' hb _
    apply Exists.intro; apply And.intro; (go_simp; rfl); refine (HCA.out w' (nextB B0.out hb)).mono ?_
    rintro e w2 ⟨v, rfl, ho, hb2⟩
    exact ⟨v, rfl, ⟨ho.lower hb.size, trivial⟩, hb2⟩
  intro v2
  apply OblG.val rfl
  · intro w' hb _; go_simp; rfl
  apply OblG.val rfl
  · intro w' hb _; have := (F1.out.after hb).cell; go_simp; rfl
  apply OblG.callR 154
  · intro v a b h hb; exact h.keep hb
  · rfl
  · intro w' hb hH
    have h2 := (hH _ (List.mem_cons_self ..) (by kernel_rfl)).1
    apply Exists.intro; apply And.intro; (go_simp; rfl); refine (HCD.out w' (nextB B0.out hb)).mono ?_
    rintro e w2 ⟨v, rfl, ho, hb2⟩
    refine ⟨v, rfl, ⟨ho.lower hb.size, ?_⟩, hb2⟩
    show v.ownBlock = none ∨ v.ownBlock ≠ v2.ownBlock
    cases hv : v.ownBlock with
    | none => exact .inl rfl
    | some k =>
      right
      intro e
      have q1 := (World.ownsRow.lt ho k hv).1
      have q2 := (World.ownsRow.lt h2 k e.symm).2
      omega
  intro v5
  apply OblG.val rfl
  · intro w' hb _; go_simp; rfl
  apply OblG.val rfl
  · intro w' hb _; have := (F1.out.after hb).cell; go_simp; rfl
  refine OblG.run (fun _ _ _ _ _ => trivial) (by kernel_rfl) (fun w' hb hH => ⟨.agg #[.slice none 0 0, v2, v5, .int .i64 all], w', ?_, ⟨trivial, rfl⟩, Below.refl _ _⟩) ?_
  · have q5 := (hH _ (List.mem_cons_self ..) (by kernel_rfl)).1
    have q2 := (hH _ (List.mem_cons_of_mem _ (List.mem_cons_self ..)) (by kernel_rfl)).1
    obtain ⟨A', c2, rfl, _, _⟩ := Own.sl q2
    obtain ⟨D', c5, rfl, _, _⟩ := Own.sl q5
    go_simp
  intro v8
  refine OblG.run (fun _ _ _ _ _ => trivial) (by kernel_rfl) (fun w' hb hH => ⟨v8, w', ?_, ⟨trivial, rfl⟩, Below.refl _ _⟩) ?_
  · have h8 : v8 = .agg #[.slice none 0 0, v2, v5, .int .i64 all] := (hH _ (List.mem_cons_self ..) (by kernel_rfl)).2
    subst h8
    go_simp
  intro v9
  apply OblG.makes ⟨rfl, fun a w => by kernel_rfl⟩ (fun _ => trivial)
  intro v10
  apply OblG.nil
  apply hK
  intro w7 hb hH
  obtain ⟨⟨g, rfl, hg0, hg⟩, _⟩ := hH _ (List.mem_cons_self ..)
  have h9 : v9 = v8 := (hH _ (List.mem_cons_of_mem _ (List.mem_cons_self ..))).2
  have h8 : v8 = .agg #[.slice none 0 0, v2, v5, .int .i64 all] := (hH _ (List.mem_cons_of_mem _ (List.mem_cons_of_mem _ (List.mem_cons_self ..)))).2
  obtain ⟨h5, h5f⟩ := hH _ (List.mem_cons_of_mem _ (List.mem_cons_of_mem _ (List.mem_cons_of_mem _ (List.mem_cons_self ..))))
  have h5f : v5.ownBlock = none ∨ v5.ownBlock ≠ v2.ownBlock := h5f
  have h2 := (hH _ (List.mem_cons_of_mem _ (List.mem_cons_of_mem _ (List.mem_cons_of_mem _ (List.mem_cons_of_mem _ (List.mem_cons_self ..)))))).1
  subst h9
  subst h8
  obtain ⟨A', ac', rfl, _, _⟩ := Own.sl h2
  obtain ⟨D', dc', rfl, _, _⟩ := Own.sl h5
  rw [own_blk, own_blk] at h5f
  rw [hal] at h2 ⊢
  rw [hdl] at h5 ⊢
  have H2 := Lib.hid h2; have H5 := Lib.hid h5; have HFar := Lib.hid (show Far D' A' from h5f); have HG := Lib.hid hg
  have HB := Lib.hid (nextB B0.out hb); have HF1 := Lib.hid (F1.out.after hb); have HF2 := Lib.hid (F2.out)
  clear h2 h5 h5f hH hK K
  simp only [Act.put, List.setIfInBounds_toArray, List.set_cons_zero, List.set_cons_succ, List.drop_succ_cons, List.drop_zero]
  have hz0 := F2.out.lt
  have hgne : w.heap.size + 1 ≠ g := by omega
  have HF27 := Lib.hid (F2.out.after hb)
  clear F1 F2 cf hb
  have BO0 := Lib.hid (show BOwn w.heap.size ⟨none, A', D', 0, 0, an, ac', dn, dc', [], ⟨[], acr, dnr, all⟩⟩ w7 from
    ⟨Own.nil eS _ _, rfl, fun j s xs h => by simp at h, ⟨hal.symm, H2.out.lower B0.out.size⟩, ⟨hdl.symm, H5.out.lower B0.out.size⟩, rfl, HFar.out.symm, fun s h => by simp at h, fun i j s t _ h => by simp at h⟩)
  have hgw : w.heap.size ≤ g := by omega
  have hgf : w.heap.size ≠ g := by omega
  have hcf := HF1.out.setRow_far hgf #[.slice none 0 0, .slice A' an ac', .slice D' dn dc', .int .i64 all]
  have cf := hcf.cell
  have zf := hcf.lt
  have HG1 := Lib.hid (HG.out.setRow #[.slice none 0 0, .slice A' an ac', .slice D' dn dc', .int .i64 all])
  have HF28 := Lib.hid (HF27.out.setRow_far hgne #[.slice none 0 0, .slice A' an ac', .slice D' dn dc', .int .i64 all])
  have BO1 := Lib.hid (BO0.out.setRowBox HG.out (by decide) (by decide) #[.slice none 0 0, .slice A' an ac', .slice D' dn dc', .int .i64 all])
  have HB1 := Lib.hid (rowB HB.out hgw #[.slice none 0 0, .slice A' an ac', .slice D' dn dc', .int .i64 all])
  clear hcf
  go_wp2_with (refine wpList_store_all rfl 138 _ _ rfl g rfl _ rfl 138 _ HG.out (by kernel_rfl) rfl (by simp [Value.oneCell']) ?_)
  have HRL := Lib.hid (show rows.length = rn by rw [← HR.out.1, HS.out.1])
  go_loopw [19] (fun v wr => ∃ (k : Nat) (R' : Option Addr) (rc' : Nat) (ss' : List Sl3), k ≤ rn ∧ v = .int .i64 k ∧ Below w.heap.size w wr ∧ Has wr (w.heap.size + 1) 138 #[.slice none 0 0, .slice none 0 0, .slice none 0 0, .int .i64 0] ∧
      Has wr g 138 #[.slice R' k rc', .slice A' an ac', .slice D' dn dc', .int .i64 all] ∧ BOwn w.heap.size ⟨R', A', D', k, rc', an, ac', dn, dc', ss', ⟨rows.take k, acr, dnr, all⟩⟩ wr) (fun v _ => rn - (intOf v).toNat)
  case atStart => exact ⟨0, none, 0, [], by omega, rfl, HB1.out, HF28.out, HG1.out, by simpa using BO1.out⟩
  case round =>
    obtain ⟨k, R', rc', ss', hk, rfl, hB, hF, hG, hO⟩ := hrel
    have HBr := Lib.hid hB; have HFr := Lib.hid hF; have HGr := Lib.hid hG; have HO := Lib.hid hO
    have cg := hG.cell; have zgr := hG.lt
    have hzr := hB.size
    clear hB hF hG hO cf zf
    by_cases hkn : k < rn
    · have hkl : k < rows.length := by rw [HRL.out]; exact hkn
      obtain ⟨b1, o1, he⟩ := HS.out.addr (by omega)
      obtain ⟨s, hs, hrow⟩ := HR.out.get hkl
      have HT := Lib.hid (show rows.take (k + 1) = rows.take k ++ [rows[k]] from (List.take_append_getElem hkl).symm)
      have hsn := HRN.out s (List.mem_of_getElem? hs)
      obtain ⟨r, hrr⟩ : ∃ r, r = rows[k] := ⟨_, rfl⟩
      rw [← hrr] at hrow HT
      clear hrr
      subst he
      obtain ⟨A1, n1, c1⟩ := s
      simp only at hrow hsn
      have hc : wr.cell? ⟨b1, o1 + k, none⟩ = some (.slice A1 n1 c1) := by have := (HS.out.keep HBr.out).range slC_len hs 0 _ rfl; simpa using this
      have hn1 := hrow.1
      have HCl := Lib.hid fun (w' : World) (hb : Below w.heap.size w w') => cloneI_c A1 n1 c1 r hsn w' (hrow.keep hb)
      have HLs := Lib.hid (show ss'.length = k from HO.out.rlen.symm)
      clear hs hrow
      go_wp2
      apply wp_loose 6 [.v _, .v _, .v _, .v _, .r (fun v w' => Own eI wr.heap.size v r w'), .r (fun v w' => ∃ q Ar cr, v = .slice (some ⟨q, 0, none⟩) 1 1 ∧ Has w' q 30 #[.slice Ar n1 cr] ∧ Own eI wr.heap.size (.slice Ar n1 cr) r w')] (by kernel_rfl) (by kernel_rfl) (by kernel_rfl) (by decide) rfl
      intro K hK
      apply OblS.val rfl
      · intro w' hb _; go_simp; rfl
      apply OblS.val rfl
      · intro w' hb _; go_simp; rfl
      apply OblS.val rfl
      · intro w' hb _; have := (HGr.out.after hb).cell; go_simp; rfl
      apply OblS.val rfl
      · intro w' hb _; go_simp; rfl
      apply OblS.callR 154
      · intro v a b h hb; exact h.keep hb
      · rfl
      · intro w' hb _
        apply Exists.intro; apply And.intro; (go_simp; rfl); refine (HCl.out w' (nextB HBr.out hb)).mono ?_
        rintro e w2 ⟨v, rfl, ho, hb2⟩
        exact ⟨v, rfl, ho.lower hb.size, hb2⟩
      intro v4
      refine OblS.run (by rintro v a b ⟨q, Ar, cr, e, h, ho⟩ hb; exact ⟨q, Ar, cr, e, h.after hb, ho.keep hb⟩) (by kernel_rfl) (fun w' hb hH => ?_) ?_
      · have ho := hH _ (List.mem_cons_self ..) (by kernel_rfl)
        obtain ⟨Ar, cr, rfl, _, _⟩ := Own.sl ho
        rw [hn1] at ho ⊢
        exact ⟨_, _, (by kernel_rfl), ⟨w'.heap.size, Ar, cr, rfl, Has.new w' 30 _, ho.alloc _⟩, newB (Below.refl _ _) _⟩
      intro v5
      apply OblS.nil
      apply hK
      intro w5 hb hH
      obtain ⟨q, Ar, cr, rfl, hq, ho⟩ := hH _ (List.mem_cons_self ..)
      have HQ := Lib.hid hq; have HAr := Lib.hid ho
      clear hH hK K hq ho
      simp only [Act.put, List.setIfInBounds_toArray, List.set_cons_zero, List.set_cons_succ, List.drop_succ_cons, List.drop_zero]
      have HB5 := Lib.hid (nextB HBr.out hb); have BO5 := Lib.hid (HO.out.keep hb); have HF5 := Lib.hid (HFr.out.after hb); have HG5 := Lib.hid (HGr.out.after hb)
      clear hb
      go_wp2_with (at_builtin; refine El.app1 eS_ok rfl _ _ rfl w.heap.size (.slice R' k rc') ss' rfl BO5.out.hs (by have := HLs.out; omega) q (Ar, n1, cr) rfl HQ.out HB5.out.size ?_; intro v6 w6 ho6 hb6 hsp; obtain ⟨R6, rc6, rfl, _, _⟩ := Own.sl ho6; have hlen6 : (ss' ++ [((Ar, n1, cr) : Sl3)]).length = k + 1 := (by simp [HLs.out]); rw [hlen6] at ho6 ⊢; have HO6 := Lib.hid ho6; have HSp := Lib.hid hsp; have HB6 := Lib.hid (HB5.out.trans hb6); have h66 := hsp.has HG5.out (by decide); have c66 := h66.cell; have f66 := h66.frozen; have z66 := h66.lt; have HG6 := Lib.hid h66; have HF6 := Lib.hid (hsp.has HF5.out (by decide)); clear ho6 hb6 hsp h66)
      have BO6 := Lib.hid (BOwn.addRow (L := wr.heap.size) BO5.out HO6.out HSp.out hn1.symm (HAr.out.lower hzr) (fun k hk => (own_lt HAr.out k hk).1) (fun j s hs b hb' => by
          have hsl : j < (rows.take k).length := by have := HO.out.len; simp only at this; rw [← this]; exact (List.getElem?_eq_some_iff.1 hs).1
          exact (own_lt (HO.out.rows j s _ hs (List.getElem?_eq_getElem hsl)).2 b hb').2) (fun k hk => (own_lt HO.out.ac.2 k hk).2) (fun k hk => (own_lt HO.out.dn.2 k hk).2))
      go_roundw
      case rel => exact ⟨k + 1, R6, rc6, ss' ++ [(Ar, n1, cr)], by omega, by go_num, setB HB6.out (by simpa using hgw) _, HF6.out.far (by simpa using hgne) _, HG6.out.set 0 _, by rw [HT.out]; exact BO6.out.setBox HG6.out (by decide) (by decide) _⟩
      case measure => simp [intOf]; omega
    · have hkn' : k = rn := by omega
      subst hkn'
      have HE := Lib.hid (show rows.take k = rows from List.take_of_length_le (by rw [HRL.out]; exact Nat.le_refl _))
      go_wp2_with (first
        | (refine wpList_load_row rfl 138 _ rfl g rfl 138 _ (0, 0) _ HGr.out Tryz.underlying138 rfl (by kernel_rfl) ?_)
        | (refine wpList_store_all rfl 138 _ _ rfl (w.heap.size + 1) rfl _ rfl 138 _ HFr.out (by kernel_rfl) rfl (by simp [Value.oneCell']) ?_))
      refine bodyPost_ret (results_cell_row rfl _ _ (w.heap.size + 1) 138 _ (0, 0) _ rfl (HFr.out.setRow _) Tryz.underlying138 rfl (by kernel_rfl)) rfl ⟨⟨R', A', D', k, rc', an, ac', dn, dc', ss', ⟨rows, acr, dnr, all⟩⟩, rfl, rfl, ?_, rowB HBr.out (by omega) _⟩
      have h1 := HO.out.setRowBox HFr.out (by decide) (by decide) #[.slice R' k rc', .slice A' an ac', .slice D' dn dc', .int .i64 all]
      rw [HE.out] at h1
      exact h1
end Go.Proofs
namespace Go.Proofs
open Go.RowKit Go.Shelf
attribute [local go_sem ↓] Go.wp_at_zero Go.wp_at_succ

theorem closes_ok (m : Bm) (hm : m.Small) (hrn : ∀ s ∈ m.ss, s.2.1 ≤ 1000000) (hb : bookB m.b = true) (w : World) (hi : m.In w) :
    Calls Tryz.prog 64 #[m.val] w fun e w' => e = .returned (.tuple #[.bool (closesB m.b), .int .i64 0]) ∧ Below w.heap.size w w' := by
  have HI := Lib.hid fun (w' : World) (hq : Below w.heap.size w w') => isBook_c m hm hrn w' (hi.keep hq)
  have HC := Lib.hid fun (w' : World) (hq : Below w.heap.size w w') => closes_c m hb w' (hi.keep hq)
  rw [hb] at HI
  obtain ⟨cb, hcb⟩ : ∃ cb, cb = closesB m.b := ⟨_, rfl⟩
  rw [← hcb] at HC ⊢
  clear hi hm hrn hb hcb
  obtain ⟨R, A, D, rn, rc, an, ac, dn, dc, ss, b⟩ := m
  simp only [Bm.val] at *
  have F0 := Lib.hid (Has.new w 80 #[.slice R rn rc, .slice A an ac, .slice D dn dc, .int .i64 b.all])
  have B0 := Lib.hid (newB (Below.refl w.heap.size w) (.cells #[.slice R rn rc, .slice A an ac, .slice D dn dc, .int .i64 b.all] 80))
  go_enter Tryz.func64, Tryz.ntmps64
  go_wp2_with (first
    | (refine wpList_load_row rfl 80 _ rfl w.heap.size rfl 80 _ (0, 0) _ F0.out Tryz.underlying80 rfl (by kernel_rfl) ?_)
    | (refine wpList_load_row rfl 80 _ rfl w.heap.size rfl 80 _ (0, 0) _ F1.out Tryz.underlying80 rfl (by kernel_rfl) ?_)
    | (go_at_call 111; refine (HI.out _ B0.out).mono ?_; rintro e w1 ⟨rfl, hb1⟩; have HB1 := Lib.hid (nextB B0.out hb1); have F1 := Lib.hid (F0.out.after hb1); clear hb1)
    | (go_at_call 112; refine (HC.out _ HB1.out).mono ?_; rintro e w2 ⟨rfl, hb2⟩; have HB2 := Lib.hid (nextB HB1.out hb2); clear hb2))
  exact bodyPost_ret (results_tmp2 rfl _ _ _) rfl ⟨rfl, HB2.out⟩

theorem closes_no (m : Bm) (hm : m.Small) (hrn : ∀ s ∈ m.ss, s.2.1 ≤ 1000000) (hb : bookB m.b = false) (w : World) (hi : m.In w) :
    Calls Tryz.prog 64 #[m.val] w fun e w' => e = .returned (.tuple #[.bool false, .int .i64 2]) ∧ Below w.heap.size w w' := by
  have HI := Lib.hid fun (w' : World) (hq : Below w.heap.size w w') => isBook_c m hm hrn w' (hi.keep hq)
  rw [hb] at HI
  clear hi hm hrn hb
  obtain ⟨R, A, D, rn, rc, an, ac, dn, dc, ss, b⟩ := m
  simp only [Bm.val] at *
  have F0 := Lib.hid (Has.new w 80 #[.slice R rn rc, .slice A an ac, .slice D dn dc, .int .i64 b.all])
  have B0 := Lib.hid (newB (Below.refl w.heap.size w) (.cells #[.slice R rn rc, .slice A an ac, .slice D dn dc, .int .i64 b.all] 80))
  go_enter Tryz.func64, Tryz.ntmps64
  go_wp2_with (first
    | (refine wpList_load_row rfl 80 _ rfl w.heap.size rfl 80 _ (0, 0) _ F0.out Tryz.underlying80 rfl (by kernel_rfl) ?_)
    | (go_at_call 111; refine (HI.out _ B0.out).mono ?_; rintro e w1 ⟨rfl, hb1⟩; have HB1 := Lib.hid (nextB B0.out hb1); clear hb1))
  exact bodyPost_ret (results_tmp2 rfl _ _ _) rfl ⟨rfl, HB1.out⟩
end Go.Proofs
namespace Go.Proofs
open Go.RowKit Go.Shelf
attribute [local go_sem ↓] Go.wp_at_zero Go.wp_at_succ

set_option maxHeartbeats 1000000 in
theorem number_ent (m : Bm) (g : Nat) (i k : Nat) (v : Int) (b o n c : Nat) (hs : m.ss[i]? = some (some ⟨b, o, none⟩, n, c)) (hk : k < n) (w : World) (hg : Has w g 138 m.cells) (hS : SlOf slC 1 w m.R m.rn m.ss) :
    Calls Tryz.prog 175 #[.pointer (some ⟨g, 0, none⟩), .agg #[.int .i64 1, .int .i64 i, .int .i64 k, .int .i64 v]] w fun e w' => e = .returned (.pointer (some ⟨b, o + k, none⟩)) ∧ Below w.heap.size w w' := by
  obtain ⟨R, A, D, rn, rc, an, ac, dn, dc, ss, bb⟩ := m
  simp only [Bm.cells] at *
  have hin : i < rn := by rw [← hS.1]; exact (List.getElem?_eq_some_iff.1 hs).1
  obtain ⟨b1, o1, rfl⟩ := hS.addr (by omega)
  have CR := Lib.hid fun (w' : World) (hb : Below w.heap.size w w') => (show w'.cell? ⟨b1, o1 + i, none⟩ = some (.slice (some ⟨b, o, none⟩) n c) from by have := (hS.keep hb).range slC_len hs 0 _ rfl; simpa using this)
  have HG := Lib.hid hg
  have B0 := Lib.hid (newB (Below.refl w.heap.size w) (.cells #[.int .i64 1, .int .i64 i, .int .i64 k, .int .i64 v] 90))
  have F0 := Lib.hid (Has.new w 90 #[.int .i64 1, .int .i64 i, .int .i64 k, .int .i64 v])
  have HG0 := Lib.hid (hg.alloc (.cells #[.int .i64 1, .int .i64 i, .int .i64 k, .int .i64 v] 90))
  clear hs hS hg
  go_enter Tryz.func175, Tryz.ntmps175
  go_wp2
  generalize w.alloc (.cells #[.int .i64 1, .int .i64 i, .int .i64 k, .int .i64 v] 90) = W0 at *
  refine wp_free 13 (by kernel_rfl) (by kernel_rfl) (by kernel_rfl) (by decide) ?_
  intro K hK
  iterate 13 (apply Obl.val (by decide) (by kernel_rfl); (intro w' hb; have := (HG0.out.after hb).cell; have := (F0.out.after hb).cell; have := CR.out w' (nextB B0.out hb); go_simp; first | done | rfl))
  apply Obl.nil
  apply hK
  intro w2 hb
  simp only [Act.put, List.setIfInBounds_toArray, List.set_cons_zero, List.set_cons_succ, List.drop_succ_cons, List.drop_zero]
  clear hK K
  have HB2 := Lib.hid (nextB B0.out hb)
  clear hb
  go_wp2
  exact bodyPost_ret (results_tmp rfl _ _ _) rfl ⟨rfl, HB2.out⟩

set_option maxHeartbeats 1000000 in
theorem number_acr (m : Bm) (g : Nat) (i j : Int) (q : Nat) (v : Int) (b o : Nat) (hj : i = q) (hA : m.A = some ⟨b, o, none⟩) (hq : q < m.an) (w : World) (hg : Has w g 138 m.cells) :
    Calls Tryz.prog 175 #[.pointer (some ⟨g, 0, none⟩), .agg #[.int .i64 2, .int .i64 i, .int .i64 j, .int .i64 v]] w fun e w' => e = .returned (.pointer (some ⟨b, o + q, none⟩)) ∧ Below w.heap.size w w' := by
  obtain ⟨R, A, D, rn, rc, an, ac, dn, dc, ss, bb⟩ := m
  simp only [Bm.cells] at *
  subst hA
  subst hj
  have HG := Lib.hid hg
  have B0 := Lib.hid (newB (Below.refl w.heap.size w) (.cells #[.int .i64 2, .int .i64 q, .int .i64 j, .int .i64 v] 90))
  have F0 := Lib.hid (Has.new w 90 #[.int .i64 2, .int .i64 q, .int .i64 j, .int .i64 v])
  have HG0 := Lib.hid (hg.alloc (.cells #[.int .i64 2, .int .i64 q, .int .i64 j, .int .i64 v] 90))
  clear hg
  go_enter Tryz.func175, Tryz.ntmps175
  go_wp2
  generalize w.alloc (.cells #[.int .i64 2, .int .i64 q, .int .i64 j, .int .i64 v] 90) = W0 at *
  refine wp_free 9 (by kernel_rfl) (by kernel_rfl) (by kernel_rfl) (by decide) ?_
  intro K hK
  iterate 9 (apply Obl.val (by decide) (by kernel_rfl); (intro w' hb; have := (HG0.out.after hb).cell; have := (F0.out.after hb).cell; go_simp; first | done | rfl))
  apply Obl.nil
  apply hK
  intro w2 hb
  simp only [Act.put, List.setIfInBounds_toArray, List.set_cons_zero, List.set_cons_succ, List.drop_succ_cons, List.drop_zero]
  clear hK K
  have HB2 := Lib.hid (nextB B0.out hb)
  clear hb
  go_wp2
  exact bodyPost_ret (results_tmp rfl _ _ _) rfl ⟨rfl, HB2.out⟩

set_option maxHeartbeats 1000000 in
theorem number_dwn (m : Bm) (g : Nat) (i j : Int) (q : Nat) (v : Int) (b o : Nat) (hj : j = q) (hA : m.D = some ⟨b, o, none⟩) (hq : q < m.dn) (w : World) (hg : Has w g 138 m.cells) :
    Calls Tryz.prog 175 #[.pointer (some ⟨g, 0, none⟩), .agg #[.int .i64 3, .int .i64 i, .int .i64 j, .int .i64 v]] w fun e w' => e = .returned (.pointer (some ⟨b, o + q, none⟩)) ∧ Below w.heap.size w w' := by
  obtain ⟨R, A, D, rn, rc, an, ac, dn, dc, ss, bb⟩ := m
  simp only [Bm.cells] at *
  subst hA
  subst hj
  have HG := Lib.hid hg
  have B0 := Lib.hid (newB (Below.refl w.heap.size w) (.cells #[.int .i64 3, .int .i64 i, .int .i64 q, .int .i64 v] 90))
  have F0 := Lib.hid (Has.new w 90 #[.int .i64 3, .int .i64 i, .int .i64 q, .int .i64 v])
  have HG0 := Lib.hid (hg.alloc (.cells #[.int .i64 3, .int .i64 i, .int .i64 q, .int .i64 v] 90))
  clear hg
  go_enter Tryz.func175, Tryz.ntmps175
  go_wp2
  generalize w.alloc (.cells #[.int .i64 3, .int .i64 i, .int .i64 q, .int .i64 v] 90) = W0 at *
  refine wp_free 9 (by kernel_rfl) (by kernel_rfl) (by kernel_rfl) (by decide) ?_
  intro K hK
  iterate 9 (apply Obl.val (by decide) (by kernel_rfl); (intro w' hb; have := (HG0.out.after hb).cell; have := (F0.out.after hb).cell; go_simp; first | done | rfl))
  apply Obl.nil
  apply hK
  intro w2 hb
  simp only [Act.put, List.setIfInBounds_toArray, List.set_cons_zero, List.set_cons_succ, List.drop_succ_cons, List.drop_zero]
  clear hK K
  have HB2 := Lib.hid (nextB B0.out hb)
  clear hb
  go_wp2
  exact bodyPost_ret (results_tmp rfl _ _ _) rfl ⟨rfl, HB2.out⟩

theorem number_all (m : Bm) (g : Nat) (i j v : Int) (w : World) (hg : Has w g 138 m.cells) :
    Calls Tryz.prog 175 #[.pointer (some ⟨g, 0, none⟩), .agg #[.int .i64 4, .int .i64 i, .int .i64 j, .int .i64 v]] w fun e w' => e = .returned (.pointer (some ⟨g, 3, none⟩)) ∧ Below w.heap.size w w' := by
  have B0 := Lib.hid (newB (Below.refl w.heap.size w) (.cells #[.int .i64 4, .int .i64 i, .int .i64 j, .int .i64 v] 90))
  have hgl := hg.lt
  clear hg
  go_enter Tryz.func175, Tryz.ntmps175
  go_wp2
  exact bodyPost_ret (results_tmp rfl _ _ _) rfl ⟨rfl, B0.out⟩
end Go.Proofs
namespace Go.Proofs
open Go.RowKit Go.Shelf
attribute [local go_sem ↓] Go.wp_at_zero Go.wp_at_succ

theorem setB2 {B : Nat} {w w1 : World} (h : Below B w w1) (p : Addr) (v : Value) : Below B (w.setCell p v) (w1.setCell p v) :=
  ⟨h.os, h.tape, h.output, by simpa [World.setCell] using h.size, fun i hi => by simp only [World.setCell, Array.getElem?_modify]; rw [h.block i hi]⟩
/-- A number that is put back. -/
theorem restoreB {w w1 : World} {pb po : Nat} {t : TypeId} {cs : Array Value} {x v : Value} (hp : Has w pb t cs) (hx : cs[po]? = some x) (h : Below w.heap.size (w.setCell ⟨pb, po, none⟩ v) w1) : Below w.heap.size w (w1.setCell ⟨pb, po, none⟩ x) := by
  refine ⟨h.os, h.tape, h.output, ?_, fun i hi => ?_⟩
  · have := h.size
    simpa [World.setCell] using this
  · by_cases hip : i = pb
    · subst hip
      have h1 : Has w1 i t (cs.setIfInBounds po v) := (h.block i hi).trans (hp.set po v)
      have h2 := h1.set po x
      have e : (cs.setIfInBounds po v).setIfInBounds po x = cs := by
        apply Array.ext_getElem?
        intro j
        simp only [Array.getElem?_setIfInBounds, Array.size_setIfInBounds]
        by_cases hj : po = j
        · subst hj
          have := (Array.getElem?_eq_some_iff.1 hx).1
          rw [if_pos rfl, if_pos this, hx]
        · rw [if_neg hj, if_neg hj]
      rw [e] at h2
      exact h2.trans hp.symm
    · have := h.block i hi
      rw [Below.heap_setCell _ _ _ _ hip] at this ⊢
      exact this

theorem mends_no (g : Nat) (f1 f2 f3 v : Int) (hv : numB v = false) (w : World) :
    Calls Tryz.prog 159 #[.pointer (some ⟨g, 0, none⟩), .agg #[.int .i64 f1, .int .i64 f2, .int .i64 f3, .int .i64 v]] w fun e w' => e = .returned (.bool false) ∧ Below w.heap.size w w' := by
  have B0 := Lib.hid (newB (newB (Below.refl w.heap.size w) (.cells #[.int .i64 f1, .int .i64 f2, .int .i64 f3, .int .i64 v] 90)) (.cells #[.int .i64 v] 3))
  have F0 := Lib.hid (one_sl (Has.new (w.alloc (.cells #[.int .i64 f1, .int .i64 f2, .int .i64 f3, .int .i64 v] 90)) 3 #[.int .i64 v]))
  have HA := Lib.hid (areNumbers_c (some ⟨(w.alloc (.cells #[.int .i64 f1, .int .i64 f2, .int .i64 f3, .int .i64 v] 90)).heap.size, 0, none⟩) 1 1 [v] (by omega) _ F0.out)
  rw [show numsB [v] = false by simp [numsB, hv]] at HA
  rw [show (w.alloc (.cells #[.int .i64 f1, .int .i64 f2, .int .i64 f3, .int .i64 v] 90)).heap.size = w.heap.size + 1 by simp] at HA
  clear hv
  go_enter Tryz.func159, Tryz.ntmps159
  go_wp2_with (go_at_call 152; refine HA.out.mono ?_; rintro e w1 ⟨rfl, hb1⟩; have HB1 := Lib.hid (nextB B0.out hb1); clear hb1)
  exact bodyPost_ret (results_tmp rfl _ _ _) rfl ⟨rfl, HB1.out⟩
end Go.Proofs
namespace Go.Proofs
open Go.RowKit Go.Shelf
attribute [local go_sem ↓] Go.wp_at_zero Go.wp_at_succ

set_option maxHeartbeats 1000000 in
theorem mends_yes (m' : Bm) (g pb po : Nat) (f1 f2 f3 v x : Int) (t : TypeId) (cs : Array Value) (cg : Array Value) (hv : numB v = true) (w : World) (hg : Has w g 138 cg)
    (HN : ∀ w', Below w.heap.size w w' → Calls Tryz.prog 175 #[.pointer (some ⟨g, 0, none⟩), .agg #[.int .i64 f1, .int .i64 f2, .int .i64 f3, .int .i64 v]] w' fun e w'' => e = .returned (.pointer (some ⟨pb, po, none⟩)) ∧ Below w'.heap.size w' w'')
    (hp : Has w pb t cs) (hx : cs[po]? = some (.int .i64 x))
    (hg' : Has (w.setCell ⟨pb, po, none⟩ (.int .i64 v)) g 138 m'.cells) (hi' : m'.In (w.setCell ⟨pb, po, none⟩ (.int .i64 v))) (hb' : bookB m'.b = true) :
    Calls Tryz.prog 159 #[.pointer (some ⟨g, 0, none⟩), .agg #[.int .i64 f1, .int .i64 f2, .int .i64 f3, .int .i64 v]] w fun e w' => e = .returned (.bool (closesB m'.b)) ∧ Below w.heap.size w w' := by
  have B0 := Lib.hid (newB (newB (Below.refl w.heap.size w) (.cells #[.int .i64 f1, .int .i64 f2, .int .i64 f3, .int .i64 v] 90)) (.cells #[.int .i64 v] 3))
  have F0 := Lib.hid (one_sl (Has.new (w.alloc (.cells #[.int .i64 f1, .int .i64 f2, .int .i64 f3, .int .i64 v] 90)) 3 #[.int .i64 v]))
  have FX := Lib.hid ((Has.new w 90 #[.int .i64 f1, .int .i64 f2, .int .i64 f3, .int .i64 v]).alloc (.cells #[.int .i64 v] 3))
  have HA := Lib.hid (areNumbers_c (some ⟨(w.alloc (.cells #[.int .i64 f1, .int .i64 f2, .int .i64 f3, .int .i64 v] 90)).heap.size, 0, none⟩) 1 1 [v] (by omega) _ F0.out)
  rw [show numsB [v] = true by simp [numsB, hv]] at HA
  rw [show (w.alloc (.cells #[.int .i64 f1, .int .i64 f2, .int .i64 f3, .int .i64 v] 90)).heap.size = w.heap.size + 1 by simp] at HA
  have HNN := Lib.hid HN
  have hsz : (w.setCell ⟨pb, po, none⟩ (.int .i64 v)).heap.size = w.heap.size := by simp [World.setCell]
  have HCl := Lib.hid fun (w' : World) (hb : Below w.heap.size (w.setCell ⟨pb, po, none⟩ (.int .i64 v)) w') => (show Has w' g 138 m'.cells ∧ Calls Tryz.prog 112 #[m'.val] w' (fun e w'' => e = .returned (.bool (closesB m'.b)) ∧ Below w'.heap.size w' w'') from
    ⟨hg'.below hb (by have := hg'.lt; omega), closes_c m' hb' w' (hi'.keep (by rw [hsz]; exact hb))⟩)
  have HPo := Lib.hid (show (cs.setIfInBounds po (.int .i64 v))[po]? = some (.int .i64 v) by have := (Array.getElem?_eq_some_iff.1 hx).1; simp [this])
  have HP := Lib.hid hp
  have HXX := Lib.hid hx
  have hpl := hp.lt
  have hgl := hg.lt
  have HPc := Lib.hid fun (w' : World) (hb : Below w.heap.size (w.setCell ⟨pb, po, none⟩ (.int .i64 v)) w') => (show Has w' pb t (cs.setIfInBounds po (.int .i64 v)) from (hp.set po _).below hb hpl)
  obtain ⟨cb, hcb⟩ : ∃ cb, cb = closesB m'.b := ⟨_, rfl⟩
  rw [← hcb] at HCl ⊢
  obtain ⟨mv, hmv⟩ : ∃ mv, mv = m'.val := ⟨_, rfl⟩
  rw [← hmv] at HCl
  have hmc : mv = .agg m'.cells := hmv
  subst hmc
  obtain ⟨mc, hmc⟩ : ∃ mc, mc = m'.cells := ⟨_, rfl⟩
  rw [← hmc] at HCl
  have HMs := Lib.hid (show mc.size = 4 by rw [hmc]; rfl)
  clear hv hg HN hp hx hg' hi' hb' hcb hmv hmc hsz
  go_enter Tryz.func159, Tryz.ntmps159
  go_wp2_with (first
    | (go_at_call 152; refine HA.out.mono ?_; rintro e w1 ⟨rfl, hb1⟩; have HB1 := Lib.hid (nextB B0.out hb1); have FX1 := Lib.hid (FX.out.after hb1); clear hb1)
    | (refine wpList_load_row rfl 90 _ rfl w.heap.size rfl 90 _ (0, 0) _ FX1.out Tryz.underlying90 rfl (by kernel_rfl) ?_)
    | (go_at_call 175; refine (HNN.out _ HB1.out).mono ?_; rintro e w2 ⟨rfl, hb2⟩; have HB2 := Lib.hid (nextB HB1.out hb2); have h2 := HP.out.below HB2.out hpl; have FX2 := Lib.hid (FX1.out.after hb2); have cx2 := FX2.out.cell; have hc2 := h2.cell po; rw [HXX.out] at hc2; have hf2 := h2.frozen po; have hl2 := h2.lt; have HS2 := Lib.hid (setB2 HB2.out ⟨pb, po, none⟩ (.int .i64 v)); clear hb2 h2)
    | (refine wpList_load_row rfl 138 _ rfl g rfl 138 _ (0, 0) _ (HCl.out _ HS2.out).1 Tryz.underlying138 rfl (by rw [HMs.out]; kernel_rfl) ?_)
    | (go_at_call 112; refine (HCl.out _ HS2.out).2.mono ?_; rintro e w3 ⟨rfl, hb3⟩; have HS3 := Lib.hid (HS2.out.trans (hb3.mono (by have := HB2.out.size; simpa [World.setCell] using this))); have hf3 := (HPc.out _ HS3.out).frozen po; have hc3 := (HPc.out _ HS3.out).cell po; rw [HPo.out] at hc3; have hl3 := (HPc.out _ HS3.out).lt; clear hb3))
  exact bodyPost_ret (results_tmp rfl _ _ _) rfl ⟨rfl, restoreB HP.out HXX.out HS3.out⟩
end Go.Proofs
namespace Go.Proofs
open Go.RowKit Go.Shelf

theorem Own.setOther {α : Type} {e : El α} {B pb i : Nat} {u : Value} {xs : List α} {w : World} (h : Own e B u xs w) (hne : u.ownBlock ≠ some pb) (v : Value) : Own e B u xs (w.setCell ⟨pb, i, none⟩ v) := by
  refine ⟨h.1, ?_⟩
  rcases h.2 with h1 | ⟨g', cap, cur, e1, e2, e3, e4⟩
  · exact .inl h1
  · refine .inr ⟨g', cap, cur, e1, e2, ?_, e4⟩
    have hn : g' ≠ pb := by rintro rfl; rw [e1] at hne; exact hne rfl
    exact (Below.heap_setCell w ⟨pb, i, none⟩ v g' hn).trans e3
theorem Far.ne {A : Option Addr} {gb o : Nat} (h : Far A (some ⟨gb, o, none⟩)) (n c : Nat) : (Value.slice A n c).ownBlock ≠ some gb := by
  rw [own_blk]
  rcases h with h | h
  · rw [h]; simp
  · exact h
theorem Own.has {gb n c B k : Nat} {xs : List Int} {w : World} {x : Int} (h : Own eI B (.slice (some ⟨gb, 0, none⟩) n c) xs w) (hn : n = xs.length) (hx : xs[k]? = some x) : ∃ cur, Has w gb 3 cur ∧ cur[k]? = some (.int .i64 x) := by
  have hs := h.toSl hn
  rcases h.2 with ⟨h1, _⟩ | ⟨g', cap, cur, e1, e2, e3, _⟩
  · cases h1
  · cases e1
    refine ⟨cur, e3, ?_⟩
    have := hs.range inC_len hx 0 _ rfl
    rw [Has.cell (t := 3) (cs := cur) e3] at this
    simpa using this
theorem Own.setInt {gb n c B k : Nat} {xs : List Int} {w : World} (h : Own eI B (.slice (some ⟨gb, 0, none⟩) n c) xs w) (hk : k < xs.length) (v : Int) : Own eI B (.slice (some ⟨gb, 0, none⟩) n c) (xs.set k v) (w.setCell ⟨gb, k, none⟩ (.int .i64 v)) := by
  have := h.setAt eI_ok (x' := v) (u := .int .i64 v) (j := 0) (List.getElem?_eq_getElem hk) (by decide) rfl
  rwa [show k * eI.sz + 0 = k from by show k * 1 + 0 = k; omega] at this

def Bm.withRows (m : Bm) (rows : List (List Int)) : Bm := { m with b := { m.b with rows := rows } }
def Bm.withAc (m : Bm) (ac : List Int) : Bm := { m with b := { m.b with ac := ac } }
def Bm.withDn (m : Bm) (dn : List Int) : Bm := { m with b := { m.b with dn := dn } }
def Bm.withAl (m : Bm) (all : Int) : Bm := { m with b := { m.b with all := all } }

theorem BOwn.setRowAt {B : Nat} {m : Bm} {w : World} (h : BOwn B m w) {i k gb n c : Nat} {r : List Int} (hs : m.ss[i]? = some (some ⟨gb, 0, none⟩, n, c)) (hr : m.b.rows[i]? = some r) (hk : k < r.length) (v : Int) :
    BOwn B (m.withRows (m.b.rows.set i (r.set k v))) (w.setCell ⟨gb, k, none⟩ (.int .i64 v)) := by
  obtain ⟨hn, ho⟩ := h.rows i _ r hs hr
  obtain ⟨cur, hc, _⟩ := Own.has ho hn (List.getElem?_eq_getElem hk)
  have hf := h.fR _ (List.mem_of_getElem? hs)
  refine ⟨h.hs.setFar hc (by decide) _, ?_, ?_, ⟨h.ac.1, h.ac.2.setOther (hf.1.symm.ne _ _) _⟩, ⟨h.dn.1, h.dn.2.setOther (hf.2.symm.ne _ _) _⟩, h.rlen, h.fAD, h.fR, h.fRR⟩
  · simp [Bm.withRows, h.len]
  · intro j s xs h1 h2
    simp only [Bm.withRows] at h1 h2
    by_cases hj : i = j
    · subst hj
      rw [hs] at h1; cases h1
      have hi := (List.getElem?_eq_some_iff.1 hr).1
      rw [List.getElem?_set_self hi] at h2; cases h2
      exact ⟨by simpa using hn, ho.setInt hk v⟩
    · rw [List.getElem?_set_ne hj] at h2
      obtain ⟨q1, q2⟩ := h.rows j s xs h1 h2
      exact ⟨q1, q2.setOther ((h.fRR j i s _ (Ne.symm hj) h1 hs).ne _ _) _⟩
theorem BOwn.setAcAt {B : Nat} {m : Bm} {w : World} (h : BOwn B m w) {k gb : Nat} (hA : m.A = some ⟨gb, 0, none⟩) (hk : k < m.b.ac.length) (v : Int) :
    BOwn B (m.withAc (m.b.ac.set k v)) (w.setCell ⟨gb, k, none⟩ (.int .i64 v)) := by
  obtain ⟨hn, ho⟩ := h.ac
  have hfAD := h.fAD
  have hfR := h.fR
  rw [hA] at ho hfAD hfR
  obtain ⟨cur, hc, _⟩ := Own.has ho hn (List.getElem?_eq_getElem hk)
  refine ⟨h.hs.setFar hc (by decide) _, h.len, ?_, ⟨by simpa [Bm.withAc] using hn, ?_⟩, ⟨h.dn.1, h.dn.2.setOther (hfAD.symm.ne _ _) _⟩, h.rlen, h.fAD, h.fR, h.fRR⟩
  · intro j s xs h1 h2
    obtain ⟨q1, q2⟩ := h.rows j s xs h1 h2
    exact ⟨q1, q2.setOther ((hfR s (List.mem_of_getElem? h1)).1.ne _ _) _⟩
  · show Own eI B (.slice m.A m.an m.ac) (m.b.ac.set k v) _
    rw [hA]
    exact ho.setInt hk v
theorem BOwn.setDnAt {B : Nat} {m : Bm} {w : World} (h : BOwn B m w) {k gb : Nat} (hD : m.D = some ⟨gb, 0, none⟩) (hk : k < m.b.dn.length) (v : Int) :
    BOwn B (m.withDn (m.b.dn.set k v)) (w.setCell ⟨gb, k, none⟩ (.int .i64 v)) := by
  obtain ⟨hn, ho⟩ := h.dn
  have hfAD := h.fAD
  have hfR := h.fR
  rw [hD] at ho hfAD hfR
  obtain ⟨cur, hc, _⟩ := Own.has ho hn (List.getElem?_eq_getElem hk)
  refine ⟨h.hs.setFar hc (by decide) _, h.len, ?_, ⟨h.ac.1, h.ac.2.setOther (hfAD.ne _ _) _⟩, ⟨by simpa [Bm.withDn] using hn, ?_⟩, h.rlen, h.fAD, h.fR, h.fRR⟩
  · intro j s xs h1 h2
    obtain ⟨q1, q2⟩ := h.rows j s xs h1 h2
    exact ⟨q1, q2.setOther ((hfR s (List.mem_of_getElem? h1)).2.ne _ _) _⟩
  · show Own eI B (.slice m.D m.dn m.dc) (m.b.dn.set k v) _
    rw [hD]
    exact ho.setInt hk v
end Go.Proofs
namespace Go.Proofs
open Go.RowKit Go.Shelf

def applyF (b : Bk) (f : Fx) : Bk :=
  if f.h = 1 then { b with rows := b.rows.set f.r.toNat ((b.rows.getD f.r.toNat []).set f.c.toNat f.v) }
  else if f.h = 2 then { b with ac := b.ac.set f.r.toNat f.v }
  else if f.h = 3 then { b with dn := b.dn.set f.c.toNat f.v }
  else { b with all := f.v }
def okF (b : Bk) (f : Fx) : Bool := numB f.v && closesB (applyF b f)
def Fx.val (f : Fx) : Value := .agg #[.int .i64 f.h, .int .i64 f.r, .int .i64 f.c, .int .i64 f.v]
theorem numB_iff (v : Int) : numB v = true ↔ 0 ≤ v ∧ v ≤ 1000000000000000 := by simp [numB, inB]
theorem BkOk.setRow {b : Bk} (h : BkOk b) {i k : Nat} {v : Int} (hv : numB v = true) (hi : i < b.rows.length) : BkOk { b with rows := b.rows.set i ((b.rows[i]).set k v) } := by
  have hr := h.row _ (List.getElem_mem hi)
  have hn := h.num _ (List.getElem_mem hi)
  refine ⟨by simpa using h.r, h.d, by simpa using h.a, fun r hm => ?_, fun r hm x hx => ?_, h.nac, h.ndn, h.nall⟩
  · rcases List.mem_or_eq_of_mem_set hm with hm | rfl
    · exact h.row r hm
    · simpa using hr
  · rcases List.mem_or_eq_of_mem_set hm with hm | rfl
    · exact h.num r hm x hx
    · rcases List.mem_or_eq_of_mem_set hx with hx | rfl
      · exact hn x hx
      · exact (numB_iff _).1 hv
theorem BkOk.setAc {b : Bk} (h : BkOk b) {i : Nat} {v : Int} (hv : numB v = true) : BkOk { b with ac := b.ac.set i v } := by
  refine ⟨h.r, h.d, by simpa using h.a, h.row, h.num, fun x hx => ?_, h.ndn, h.nall⟩
  rcases List.mem_or_eq_of_mem_set hx with hx | rfl
  · exact h.nac x hx
  · exact (numB_iff _).1 hv
theorem BkOk.setDn {b : Bk} (h : BkOk b) {i : Nat} {v : Int} (hv : numB v = true) : BkOk { b with dn := b.dn.set i v } := by
  refine ⟨h.r, by simpa using h.d, h.a, fun r hr => by simpa using h.row r hr, h.num, h.nac, fun x hx => ?_, h.nall⟩
  rcases List.mem_or_eq_of_mem_set hx with hx | rfl
  · exact h.ndn x hx
  · exact (numB_iff _).1 hv
theorem BkOk.setAll {b : Bk} (h : BkOk b) {v : Int} (hv : numB v = true) : BkOk { b with all := v } :=
  ⟨h.r, h.d, h.a, h.row, h.num, h.nac, h.ndn, (numB_iff _).1 hv⟩

abbrev MendsAt (m : Bm) (g : Nat) (f : Fx) (w : World) : Prop := Calls Tryz.prog 159 #[.pointer (some ⟨g, 0, none⟩), .agg #[.int .i64 f.h, .int .i64 f.r, .int .i64 f.c, .int .i64 f.v]] w fun e w' => e = .returned (.bool (okF m.b f)) ∧ Below w.heap.size w w'

theorem mends_ent {B g : Nat} {m : Bm} {w : World} (hO : BOwn B m w) (hg : Has w g 138 m.cells) (hb : bookB m.b = true) (i k : Nat) (v : Int) (hi : i < m.b.rows.length) (hk : k < m.b.dn.length) : MendsAt m g ⟨1, i, k, v⟩ w := by
  unfold MendsAt
  by_cases hv : numB v = true
  · have ok := (bookB_iff _).1 hb
    have his : i < m.ss.length := by rw [hO.len]; exact hi
    have hs := List.getElem?_eq_getElem his
    have hr := List.getElem?_eq_getElem hi
    have hrl := ok.row _ (List.getElem_mem hi)
    have okS := BkOk.setRow ok (k := k) hv hi
    obtain ⟨r, hrr⟩ : ∃ r, r = m.b.rows[i] := ⟨_, rfl⟩
    rw [← hrr] at hr hrl okS
    obtain ⟨⟨A1, n, c⟩, hss⟩ : ∃ s, s = m.ss[i] := ⟨_, rfl⟩
    rw [← hss] at hs
    obtain ⟨hn, ho⟩ := hO.rows i _ r hs hr
    simp only at hn ho
    obtain ⟨gb, rfl⟩ := ho.addr (by omega)
    have hkr : k < r.length := by omega
    obtain ⟨cur, hc, hx⟩ := Own.has ho hn (List.getElem?_eq_getElem hkr)
    have hne : g ≠ gb := by
      rintro rfl
      unfold Has at hg hc
      rw [hg] at hc; cases hc
    have hap : applyF m.b ⟨1, i, k, v⟩ = (m.withRows (m.b.rows.set i (r.set k v))).b := by
      simp [applyF, Bm.withRows, List.getD_eq_getElem?_getD, hr]
    have key := mends_yes (m.withRows (m.b.rows.set i (r.set k v))) g gb k 1 i k v _ 3 cur _ hv w hg
      (fun w' hb => by have := number_ent m g i k v gb 0 n c hs (by omega) w' (hg.after hb) (hO.keep hb).toIn.hs; simpa using this) hc hx (hg.far hne _) (hO.setRowAt hs hr hkr v).toIn ((bookB_iff _).2 okS)
    refine key.mono fun e w' ⟨e1, e2⟩ => ⟨?_, e2⟩
    rw [e1, okF, hap]; simp [hv]
  · have hv' : numB v = false := by simpa using hv
    refine (mends_no g 1 i k v hv' w).mono fun e w' ⟨e1, e2⟩ => ⟨?_, e2⟩
    rw [e1, okF]; simp [hv']
theorem mends_acr {B g : Nat} {m : Bm} {w : World} (hO : BOwn B m w) (hg : Has w g 138 m.cells) (hb : bookB m.b = true) (i : Nat) (j v : Int) (hi : i < m.b.ac.length) : MendsAt m g ⟨2, i, j, v⟩ w := by
  unfold MendsAt
  by_cases hv : numB v = true
  · have ok := (bookB_iff _).1 hb
    obtain ⟨hn, ho⟩ := hO.ac
    obtain ⟨gb, hA⟩ := ho.addr (by omega)
    have ho' := ho
    rw [hA] at ho'
    obtain ⟨cur, hc, hx⟩ := Own.has ho' hn (List.getElem?_eq_getElem hi)
    have hne : g ≠ gb := by
      rintro rfl
      unfold Has at hg hc
      rw [hg] at hc; cases hc
    have hap : applyF m.b ⟨2, i, j, v⟩ = (m.withAc (m.b.ac.set i v)).b := by simp [applyF, Bm.withAc]
    have key := mends_yes (m.withAc (m.b.ac.set i v)) g gb i 2 i j v _ 3 cur _ hv w hg
      (fun w' hb => by have := number_acr m g i j i v gb 0 rfl hA (by omega) w' (hg.after hb); simpa using this) hc hx (hg.far hne _) (hO.setAcAt hA hi v).toIn ((bookB_iff _).2 (ok.setAc hv))
    refine key.mono fun e w' ⟨e1, e2⟩ => ⟨?_, e2⟩
    rw [e1, okF, hap]; simp [hv]
  · have hv' : numB v = false := by simpa using hv
    refine (mends_no g 2 i j v hv' w).mono fun e w' ⟨e1, e2⟩ => ⟨?_, e2⟩
    rw [e1, okF]; simp [hv']
theorem mends_dwn {B g : Nat} {m : Bm} {w : World} (hO : BOwn B m w) (hg : Has w g 138 m.cells) (hb : bookB m.b = true) (i : Int) (k : Nat) (v : Int) (hk : k < m.b.dn.length) : MendsAt m g ⟨3, i, k, v⟩ w := by
  unfold MendsAt
  by_cases hv : numB v = true
  · have ok := (bookB_iff _).1 hb
    obtain ⟨hn, ho⟩ := hO.dn
    obtain ⟨gb, hA⟩ := ho.addr (by omega)
    have ho' := ho
    rw [hA] at ho'
    obtain ⟨cur, hc, hx⟩ := Own.has ho' hn (List.getElem?_eq_getElem hk)
    have hne : g ≠ gb := by
      rintro rfl
      unfold Has at hg hc
      rw [hg] at hc; cases hc
    have hap : applyF m.b ⟨3, i, k, v⟩ = (m.withDn (m.b.dn.set k v)).b := by simp [applyF, Bm.withDn]
    have key := mends_yes (m.withDn (m.b.dn.set k v)) g gb k 3 i k v _ 3 cur _ hv w hg
      (fun w' hb => by have := number_dwn m g i k k v gb 0 rfl hA (by omega) w' (hg.after hb); simpa using this) hc hx (hg.far hne _) (hO.setDnAt hA hk v).toIn ((bookB_iff _).2 (ok.setDn hv))
    refine key.mono fun e w' ⟨e1, e2⟩ => ⟨?_, e2⟩
    rw [e1, okF, hap]; simp [hv]
  · have hv' : numB v = false := by simpa using hv
    refine (mends_no g 3 i k v hv' w).mono fun e w' ⟨e1, e2⟩ => ⟨?_, e2⟩
    rw [e1, okF]; simp [hv']
theorem mends_all {B g : Nat} {m : Bm} {w : World} (hO : BOwn B m w) (hg : Has w g 138 m.cells) (hb : bookB m.b = true) (i j v : Int) : MendsAt m g ⟨4, i, j, v⟩ w := by
  unfold MendsAt
  by_cases hv : numB v = true
  · have ok := (bookB_iff _).1 hb
    have hap : applyF m.b ⟨4, i, j, v⟩ = (m.withAl v).b := by simp [applyF, Bm.withAl]
    have hb1 := hO.setBox (i := 3) hg (by decide) (by decide) (.int .i64 v)
    have hb2 : BOwn B (m.withAl v) (w.setCell ⟨g, 3, none⟩ (.int .i64 v)) := hb1.withAll v
    have key := mends_yes (m.withAl v) g g 3 4 i j v m.b.all 138 m.cells _ hv w hg
      (fun w' hb => number_all m g i j v w' (hg.after hb)) hg rfl (hg.set 3 _) hb2.toIn ((bookB_iff _).2 (ok.setAll hv))
    refine key.mono fun e w' ⟨e1, e2⟩ => ⟨?_, e2⟩
    rw [e1, okF, hap]; simp [hv]
  · have hv' : numB v = false := by simpa using hv
    refine (mends_no g 4 i j v hv' w).mono fun e w' ⟨e1, e2⟩ => ⟨?_, e2⟩
    rw [e1, okF]; simp [hv']

def fixes (b : Bk) : List Fx := entL b ++ acrossL b ++ downL b ++ wholeL b
theorem mends_c {B g : Nat} {m : Bm} {w : World} (hO : BOwn B m w) (hg : Has w g 138 m.cells) (hb : bookB m.b = true) (f : Fx) (hf : f ∈ fixes m.b) : MendsAt m g f w := by
  have ok := (bookB_iff _).1 hb
  simp only [fixes, List.mem_append] at hf
  rcases hf with ((hf | hf) | hf) | hf
  · obtain ⟨i, hi, hf⟩ := List.mem_flatMap.1 hf
    obtain ⟨k, hk, rfl⟩ := List.mem_map.1 hf
    have hi := List.mem_range.1 hi
    have hk := List.mem_range.1 hk
    rw [show m.b.rows.getD i [] = m.b.rows[i] by simp [List.getD_eq_getElem?_getD, List.getElem?_eq_getElem hi], ok.row _ (List.getElem_mem hi)] at hk
    exact mends_ent hO hg hb i k _ hi hk
  · obtain ⟨i, hi, rfl⟩ := List.mem_map.1 hf
    exact mends_acr hO hg hb i 0 _ (by rw [ok.a]; exact List.mem_range.1 hi)
  · obtain ⟨k, hk, rfl⟩ := List.mem_map.1 hf
    exact mends_dwn hO hg hb 0 k _ (List.mem_range.1 hk)
  · simp only [wholeL, List.mem_singleton] at hf
    subst hf
    exact mends_all hO hg hb 0 0 _
end Go.Proofs
namespace Go.Proofs
open Go.RowKit Go.Shelf
attribute [local go_sem ↓] Go.wp_at_zero Go.wp_at_succ

/-- The four lists of fixes. -/
def fixesK (b : Bk) : Nat → List Fx
  | 0 => entL b
  | 1 => acrossL b
  | 2 => downL b
  | _ => wholeL b
def mendF (b : Bk) : Option Fx := (fixes b).find? (okF b)
def mendV (o : Option Fx) : Value := match o with | some f => .tuple #[f.val, .bool true] | none => .tuple #[(⟨0, 0, 0, 0⟩ : Fx).val, .bool false]

theorem find_at {α : Type} {q : α → Bool} : ∀ (xs : List α) (j : Nat) (f : α), (∀ x ∈ xs.take j, q x = false) → xs[j]? = some f → q f = true → xs.find? q = some f
  | [], _, _, _, h, _ => by simp at h
  | x :: r, 0, f, _, h, hq => by simp at h; subst h; simp [hq]
  | x :: r, j + 1, f, hn, h, hq => by
    have hx := hn x (by simp)
    rw [List.find?_cons_of_neg (by simp [hx])]
    exact find_at r j f (fun y hy => hn y (by simp [hy])) (by simpa using h) hq
theorem find_no {α : Type} {q : α → Bool} {xs : List α} (h : ∀ x ∈ xs, q x = false) : xs.find? q = none := List.find?_eq_none.2 fun x hx => by simp [h x hx]
theorem mend_some {b : Bk} {k j : Nat} {f : Fx} (hk : k < 4) (hb : ∀ k', k' < k → ∀ f ∈ fixesK b k', okF b f = false) (hj : ∀ f ∈ (fixesK b k).take j, okF b f = false) (hx : (fixesK b k)[j]? = some f) (hf : okF b f = true) : mendF b = some f := by
  have h1 := find_at _ j f hj hx hf
  unfold mendF fixes
  have hk4 : k = 0 ∨ k = 1 ∨ k = 2 ∨ k = 3 := by omega
  rcases hk4 with rfl | rfl | rfl | rfl
  · rw [List.find?_append, List.find?_append, List.find?_append, show (entL b).find? (okF b) = some f from h1]; rfl
  · rw [List.find?_append, List.find?_append, List.find?_append, show (entL b).find? (okF b) = none from find_no (hb 0 (by omega)), show (acrossL b).find? (okF b) = some f from h1]; rfl
  · rw [List.find?_append, List.find?_append, List.find?_append, show (entL b).find? (okF b) = none from find_no (hb 0 (by omega)), show (acrossL b).find? (okF b) = none from find_no (hb 1 (by omega)), show (downL b).find? (okF b) = some f from h1]; rfl
  · rw [List.find?_append, List.find?_append, List.find?_append, show (entL b).find? (okF b) = none from find_no (hb 0 (by omega)), show (acrossL b).find? (okF b) = none from find_no (hb 1 (by omega)), show (downL b).find? (okF b) = none from find_no (hb 2 (by omega)), show (wholeL b).find? (okF b) = some f from h1]; rfl
theorem mend_none {b : Bk} (hb : ∀ k', k' < 4 → ∀ f ∈ fixesK b k', okF b f = false) : mendF b = none := by
  unfold mendF fixes
  rw [List.find?_append, List.find?_append, List.find?_append, show (entL b).find? (okF b) = none from find_no (hb 0 (by omega)), show (acrossL b).find? (okF b) = none from find_no (hb 1 (by omega)), show (downL b).find? (okF b) = none from find_no (hb 2 (by omega)), show (wholeL b).find? (okF b) = none from find_no (hb 3 (by omega))]; rfl
theorem fixesK_mem {b : Bk} {k : Nat} {f : Fx} (h : f ∈ fixesK b k) : f ∈ fixes b := by
  unfold fixes
  simp only [List.mem_append]
  match k, h with
  | 0, h => exact .inl (.inl (.inl h))
  | 1, h => exact .inl (.inl (.inr h))
  | 2, h => exact .inl (.inr h)
  | _ + 3, h => exact .inr h
theorem fixesK_c (m : Bm) (hb : bookB m.b = true) (k : Nat) (hk : k < 4) (w : World) (hi : m.In w) : Calls Tryz.prog (155 + k) #[m.val] w (Gives eF w (fixesK m.b k)) := by
  have hk4 : k = 0 ∨ k = 1 ∨ k = 2 ∨ k = 3 := by omega
  rcases hk4 with rfl | rfl | rfl | rfl
  · exact entries_c m hb w hi
  · exact across_c m hb w hi
  · exact down_c m hb w hi
  · exact whole_c m hb w hi
theorem fixesK_len {b : Bk} (h : BkOk b) (k : Nat) : (fixesK b k).length ≤ 100 := by
  match k with
  | 0 => have := entPre_len h b.rows.length; have := h.r; simp only [fixesK, entL]; omega
  | 1 => have := h.r; simp [fixesK, acrossL]; omega
  | 2 => have := h.d; simp [fixesK, downL]; omega
  | _ + 3 => simp [fixesK, wholeL]

theorem idx4 (a0 a1 a2 a3 v : Value) (k : Nat) (hk : k < 4) (w : World) (hv : #[a0, a1, a2, a3].getD k undef = v) : (Instr.index 170 (.agg #[a0, a1, a2, a3]) (.int .i64 k)).run Tryz.prog w = .ok v w := by
  subst hv
  have hk0 : k = 0 ∨ k = 1 ∨ k = 2 ∨ k = 3 := by omega
  rcases hk0 with rfl | rfl | rfl | rfl <;> simp [Instr.index, go_sem]

set_option maxRecDepth 20000 in
set_option maxHeartbeats 2000000 in
theorem mend_c {B g : Nat} {m : Bm} {w : World} (hO : BOwn B m w) (hg : Has w g 138 m.cells) (hb : bookB m.b = true) :
    Calls Tryz.prog 114 #[.pointer (some ⟨g, 0, none⟩)] w fun e w' => e = .returned (mendV (mendF m.b)) ∧ Below w.heap.size w w' := by
  have hmf : ∀ (fn : Fn) (first cap : Array Value) (w : World), (Instr.makeFunc fn first cap).run Tryz.prog w = .ok (.func fn first cap) w := fun _ _ _ _ => rfl
  obtain ⟨mc, hmc⟩ : ∃ mc, mc = m.cells := ⟨_, rfl⟩
  rw [← hmc] at hg
  have HO := Lib.hid hO
  have HMs := Lib.hid (show mc.size = 4 by rw [hmc]; rfl)
  have HMc := Lib.hid hmc
  clear hmc
  have F0 := Lib.hid (Has.new w 90 #[.int .i64 0, .int .i64 0, .int .i64 0, .int .i64 0])
  have B0 := Lib.hid (newB (Below.refl w.heap.size w) (.cells #[.int .i64 0, .int .i64 0, .int .i64 0, .int .i64 0] 90))
  have HG0 := Lib.hid (hg.alloc (.cells #[.int .i64 0, .int .i64 0, .int .i64 0, .int .i64 0] 90))
  have HG := Lib.hid hg
  clear hO
  go_enter Tryz.func114, Tryz.ntmps114
  go_wp2
  refine wp_scope_straight ?_
  go_wp2
  generalize w.alloc (.cells #[.int .i64 0, .int .i64 0, .int .i64 0, .int .i64 0] 90) = W0 at *
  refine wp_free1 18 17 170 #[.nilFunc, .nilFunc, .nilFunc, .nilFunc] (by kernel_rfl) (by kernel_rfl) (by kernel_rfl) (by decide) (by decide) rfl ⟨rfl, fun a w => by kernel_rfl⟩ ?_
  intro K hK
  iterate 2 (apply Obl.val (by decide) (by kernel_rfl); (intro w' hb; go_simp; first | done | rfl))
  refine Obl.row (by decide) rfl 138 _ rfl g rfl 138 _ _ HG0.out Tryz.underlying138 rfl (by rw [HMs.out]; kernel_rfl) ?_
  apply Obl.val (v := .func (.func 155) #[.agg mc] #[]) (by decide) (by kernel_rfl)
  · intro w' hb; go_simp
  iterate 2 (apply Obl.val (by decide) (by kernel_rfl); (intro w' hb; go_simp; first | done | rfl))
  simp only [Act.put, List.setIfInBounds_toArray, List.set_cons_zero, List.set_cons_succ]
  refine Obl.row (by decide) rfl 138 _ rfl g rfl 138 _ _ HG0.out Tryz.underlying138 rfl (by rw [HMs.out]; kernel_rfl) ?_
  apply Obl.val (v := .func (.func 156) #[.agg mc] #[]) (by decide) (by kernel_rfl)
  · intro w' hb; go_simp
  iterate 2 (apply Obl.val (by decide) (by kernel_rfl); (intro w' hb; go_simp; first | done | rfl))
  simp only [Act.put, List.setIfInBounds_toArray, List.set_cons_zero, List.set_cons_succ]
  refine Obl.row (by decide) rfl 138 _ rfl g rfl 138 _ _ HG0.out Tryz.underlying138 rfl (by rw [HMs.out]; kernel_rfl) ?_
  apply Obl.val (v := .func (.func 157) #[.agg mc] #[]) (by decide) (by kernel_rfl)
  · intro w' hb; go_simp
  iterate 2 (apply Obl.val (by decide) (by kernel_rfl); (intro w' hb; go_simp; first | done | rfl))
  simp only [Act.put, List.setIfInBounds_toArray, List.set_cons_zero, List.set_cons_succ]
  refine Obl.row (by decide) rfl 138 _ rfl g rfl 138 _ _ HG0.out Tryz.underlying138 rfl (by rw [HMs.out]; kernel_rfl) ?_
  apply Obl.val (v := .func (.func 158) #[.agg mc] #[]) (by decide) (by kernel_rfl)
  · intro w' hb; go_simp
  simp only [Act.put, List.setIfInBounds_toArray, List.set_cons_zero, List.set_cons_succ]
  apply Obl.val (v := .agg #[.func (.func 155) #[.agg mc] #[], .func (.func 156) #[.agg mc] #[], .func (.func 157) #[.agg mc] #[], .func (.func 158) #[.agg mc] #[]]) (by decide) (by kernel_rfl)
  · intro w' hb; go_simp
  apply Obl.makes
  apply Obl.nil
  apply hK
  intro Bk w2 hb hBk hHk
  simp only [Act.put, List.setIfInBounds_toArray, List.set_cons_zero, List.set_cons_succ, List.drop_succ_cons, List.drop_zero]
  clear hK K
  refine wpList_store_all rfl 170 _ _ rfl Bk rfl _ rfl 170 _ hHk (by kernel_rfl) rfl (by simp [Value.oneCell']) ?_
  have HA := Lib.hid (hHk.setRow #[.func (.func 155) #[.agg mc] #[], .func (.func 156) #[.agg mc] #[], .func (.func 157) #[.agg mc] #[], .func (.func 158) #[.agg mc] #[]])
  have HB2 := Lib.hid (rowB (nextB B0.out hb) (Nat.le_trans B0.out.size hBk) #[.func (.func 155) #[.agg mc] #[], .func (.func 156) #[.agg mc] #[], .func (.func 157) #[.agg mc] #[], .func (.func 158) #[.agg mc] #[]])
  have HF2 := Lib.hid ((F0.out.after hb).setRow_far (show w.heap.size ≠ Bk from by have := F0.out.lt; omega) #[.func (.func 155) #[.agg mc] #[], .func (.func 156) #[.agg mc] #[], .func (.func 157) #[.agg mc] #[], .func (.func 158) #[.agg mc] #[]])
  clear hHk hb
  generalize w2.setRow Bk #[.func (.func 155) #[.agg mc] #[], .func (.func 156) #[.agg mc] #[], .func (.func 157) #[.agg mc] #[], .func (.func 158) #[.agg mc] #[]] = W2 at *
  simp only [Act.put]
  go_wp2
  refine wp_label ?_
  go_wp2_with (refine wpList_load_row rfl 170 _ rfl Bk rfl 170 _ (0, 0) _ HA.out Tryz.underlying170 rfl (by kernel_rfl) ?_)
  have hcE : mendV (mendF m.b) = mendV (mendF m.b) := rfl
  have HBo := Lib.hid hb
  have hok := (bookB_iff _).1 hb
  have HLn := Lib.hid (fixesK_len hok)
  clear hb hcE HA
  go_loopw [3, 27] (fun v3 v27 wr => ∃ k : Nat, v3 = .bool false ∧ k ≤ 4 ∧ v27 = .int .i64 k ∧ Below w.heap.size w wr ∧ Has wr w.heap.size 90 #[.int .i64 0, .int .i64 0, .int .i64 0, .int .i64 0] ∧ ∀ k', k' < k → ∀ f ∈ fixesK m.b k', okF m.b f = false) (fun _ v _ => 4 - (intOf v).toNat)
  case atStart => exact ⟨0, rfl, by omega, rfl, HB2.out, HF2.out, fun k' h => absurd h (by omega)⟩
  case round =>
    obtain ⟨k, rfl, hk, rfl, hB, hF, hN⟩ := hrel
    have HB := Lib.hid hB; have HF := Lib.hid hF; have HN := Lib.hid hN
    clear hB hF hN
    by_cases hk4 : k < 4
    · have HX := Lib.hid (fixesK_c m HBo.out k hk4 wr (HO.out.keep HB.out).toIn)
      have HLk := Lib.hid (HLn.out k)
      have HMm := Lib.hid fun (w' : World) (hb : Below w.heap.size w w') (f : Fx) (hf : f ∈ fixesK m.b k) => mends_c (HO.out.keep hb) (by rw [← HMc.out]; exact HG.out.after hb) HBo.out f (fixesK_mem hf)
      have HVal := Lib.hid (show m.val = .agg mc by rw [HMc.out]; rfl)
      rw [HVal.out] at HX
      have hix := fun w => idx4 (.func (.func 155) #[.agg mc] #[]) (.func (.func 156) #[.agg mc] #[]) (.func (.func 157) #[.agg mc] #[]) (.func (.func 158) #[.agg mc] #[]) (.func (.func (155 + k)) #[.agg mc] #[]) k hk4 w (by
        have hk0 : k = 0 ∨ k = 1 ∨ k = 2 ∨ k = 3 := by omega
        rcases hk0 with rfl | rfl | rfl | rfl <;> rfl)
      have heg : ∀ args w, (callFunc (155 + k) args).run Tryz.prog w = .ok (.enter (155 + k) args) w := by
        have hk0 : k = 0 ∨ k = 1 ∨ k = 2 ∨ k = 3 := by omega
        rcases hk0 with rfl | rfl | rfl | rfl
        · exact enters_of Tryz.func155 (by kernel_rfl) rfl
        · exact enters_of Tryz.func156 (by kernel_rfl) rfl
        · exact enters_of Tryz.func157 (by kernel_rfl) rfl
        · exact enters_of Tryz.func158 (by kernel_rfl) rfl
      go_wp2_with (refine HX.out.mono ?_; rintro e w3 ⟨v, rfl, ho, hb3⟩; obtain ⟨A3, c3, rfl, hsl, _⟩ := Own.sl ho; have HS3 := Lib.hid hsl; have HB3 := Lib.hid (nextB HB.out hb3); have HF3 := Lib.hid (HF.out.after hb3); clear ho hb3)
      have HO3 := Lib.hid (HO.out.keep HB3.out); have HG3 := Lib.hid (HG.out.after HB3.out)
      have HL := Lib.hid hsl.1
      clear hix heg
      go_loopw [3, 33] (fun v3 v33 wi => ∃ j : Nat, v3 = .bool false ∧ j ≤ (fixesK m.b k).length ∧ v33 = .int .i64 j ∧ Below w.heap.size w wi ∧ Has wi w.heap.size 90 #[.int .i64 0, .int .i64 0, .int .i64 0, .int .i64 0] ∧ SlOf Fx.cs 4 wi A3 (fixesK m.b k).length (fixesK m.b k) ∧ ∀ f ∈ (fixesK m.b k).take j, okF m.b f = false) (fun _ v _ => (fixesK m.b k).length - (intOf v).toNat)
      case atStart => exact ⟨0, rfl, by omega, rfl, HB3.out, HF3.out, HS3.out, fun f h => by simp at h⟩
      case round =>
        obtain ⟨j, rfl, hj, rfl, hB, hF, hS, hT⟩ := hrel
        have HBi := Lib.hid hB; have HFi := Lib.hid hF; have HSi := Lib.hid hS; have HTi := Lib.hid hT
        clear hB hF hS hT
        have hl100 := HLk.out
        by_cases hjl : j < (fixesK m.b k).length
        · obtain ⟨b, o, he⟩ := HSi.out.addr (by omega)
          have hx := List.getElem?_eq_getElem hjl
          have hmem := List.getElem_mem hjl
          have HTk := Lib.hid (List.take_append_getElem hjl)
          obtain ⟨x, hxx⟩ : ∃ x, x = (fixesK m.b k)[j] := ⟨_, rfl⟩
          rw [← hxx] at hx hmem HTk
          have hSi := HSi.out
          rw [he] at hSi
          have hR := Lib.hid (hSi.range Fx.cs_len hx)
          clear hSi
          have HX2 := Lib.hid hx
          obtain ⟨x1, x2, x3, x4⟩ := x
          replace hR := Lib.hid (show wr.rangeAt b (o + j * 4) [.int .i64 x1, .int .i64 x2, .int .i64 x3, .int .i64 x4] from hR.out)
          have N0 := Lib.hid (Has.new wr 90 #[.int .i64 x1, .int .i64 x2, .int .i64 x3, .int .i64 x4])
          have BN := Lib.hid (newB HBi.out (.cells #[.int .i64 x1, .int .i64 x2, .int .i64 x3, .int .i64 x4] 90))
          have FN := Lib.hid (HFi.out.alloc (.cells #[.int .i64 x1, .int .i64 x2, .int .i64 x3, .int .i64 x4] 90))
          have SN := Lib.hid (HSi.out.keep (newB (Below.refl wr.heap.size wr) (.cells #[.int .i64 x1, .int .i64 x2, .int .i64 x3, .int .i64 x4] 90)))
          have HMx := Lib.hid (HMm.out _ BN.out _ hmem)
          clear hx hxx hmem
          cases hok2 : okF m.b ⟨x1, x2, x3, x4⟩
          all_goals
            have HQ := Lib.hid hok2
            unfold MendsAt at HMx
            simp only [hok2] at HMx
            clear hok2
            subst he
            go_wp2_with (first
              | (refine wpList_load_mid rfl 90 _ rfl b (o + j * 4) (by simp [go_sem]) _ _ hR.out Tryz.underlying90 rfl (by kernel_rfl) ?_)
              | (refine wpList_load_row rfl 90 _ rfl wr.heap.size rfl 90 _ (0, 0) _ N0.out Tryz.underlying90 rfl (by kernel_rfl) ?_)
              | (refine wpList_load_row rfl 90 _ rfl wr.heap.size rfl 90 _ (0, 0) _ N5.out Tryz.underlying90 rfl (by kernel_rfl) ?_)
              | (go_at_call 159; refine HMx.out.mono ?_; rintro e w5 ⟨rfl, hb5⟩; have HB5 := Lib.hid (nextB BN.out hb5); have HF5 := Lib.hid (FN.out.after hb5); have HS5 := Lib.hid (SN.out.keep hb5); have N5 := Lib.hid (N0.out.after hb5); clear hb5)
              | (refine wpList_store_all rfl 90 _ _ rfl w.heap.size rfl _ rfl 90 _ HF5.out (by kernel_rfl) rfl (by simp [Value.oneCell']) ?_)
              | (refine wpList_load_row rfl 90 _ rfl w.heap.size rfl 90 _ (0, 0) _ (HF5.out.setRow _) Tryz.underlying90 rfl (by kernel_rfl) ?_)
              | (refine wpList_store_all rfl 90 _ _ rfl w.heap.size rfl _ rfl 90 _ (HF5.out.setRow _) (by kernel_rfl) rfl (by simp [Value.oneCell']) ?_))
          · go_roundw
            case rel => exact ⟨j + 1, rfl, by omega, by go_num, HB5.out, HF5.out, HS5.out, fun f hf => by
              rw [← HTk.out] at hf
              rcases List.mem_append.1 hf with h | h
              · exact HTi.out f h
              · simp at h; subst h; exact HQ.out⟩
            case measure => simp [intOf]; omega
          · dsimp only [Exit.noGoto]
            have he2 : mendF m.b = some ⟨x1, x2, x3, x4⟩ := mend_some hk4 HN.out HTi.out HX2.out HQ.out
            refine (show bodyPost Tryz.prog Tryz.f114 (fun e w' => e = .returned (mendV (mendF m.b)) ∧ Below w.heap.size w w') Exit.ret _ _ from ?_)
            rw [he2]
            exact bodyPost_ret (results_row_tmp Tryz.results114 _ _ w.heap.size 90 _ (0, 0) _ rfl ((HF5.out.setRow _).setRow _) Tryz.underlying90 rfl (by kernel_rfl)) rfl ⟨rfl, rowB (rowB HB5.out (Nat.le_refl _) _) (Nat.le_refl _) _⟩
        · have hje : j = (fixesK m.b k).length := by omega
          subst hje
          go_wp2
          go_roundw
          case rel => exact ⟨k + 1, rfl, by omega, by go_num, HBi.out, HFi.out, fun k' hk' f hf => by
            rcases Nat.lt_succ_iff_lt_or_eq.1 hk' with h | rfl
            · exact HN.out k' h f hf
            · exact HTi.out f (by rw [List.take_of_length_le (Nat.le_refl _)]; exact hf)⟩
          case measure => simp [intOf]; omega
    · have hke : k = 4 := by omega
      subst hke
      go_wp2_with (first
        | (refine wpList_load_row rfl 90 _ rfl w.heap.size rfl 90 _ (0, 0) _ HF.out Tryz.underlying90 rfl (by kernel_rfl) ?_)
        | (refine wpList_store_all rfl 90 _ _ rfl w.heap.size rfl _ rfl 90 _ HF.out (by kernel_rfl) rfl (by simp [Value.oneCell']) ?_))
      dsimp only [Exit.noGoto]
      have he : mendF m.b = none := mend_none (fun k' h => HN.out k' h)
      refine (show bodyPost Tryz.prog Tryz.f114 (fun e w' => e = .returned (mendV (mendF m.b)) ∧ Below w.heap.size w w') Exit.ret _ _ from ?_)
      rw [he]
      exact bodyPost_ret (results_row_tmp Tryz.results114 _ _ w.heap.size 90 _ (0, 0) _ rfl (HF.out.setRow _) Tryz.underlying90 rfl (by kernel_rfl)) rfl ⟨rfl, rowB HB.out (Nat.le_refl _) _⟩
end Go.Proofs
namespace Go.Proofs
open Go.RowKit Go.Shelf
attribute [local go_sem ↓] Go.wp_at_zero Go.wp_at_succ

/-- What Mend answers: a fix, and the error. -/
def mendN (o : Option Fx) : Fx × Int := match o with | none => (⟨0, 0, 0, 0⟩, 5) | some f => (f, 0)
def mendA (b : Bk) : Fx × Int := if bookB b then (if closesB b then (⟨0, 0, 0, 0⟩, 7) else mendN (mendF b)) else (⟨0, 0, 0, 0⟩, 2)
def fxE (r : Fx × Int) : Value := .tuple #[r.1.val, .int .i64 r.2]

set_option maxRecDepth 20000 in
set_option maxHeartbeats 2000000 in
theorem Mend_c (m : Bm) (hm : m.Small) (hrn : ∀ s ∈ m.ss, s.2.1 ≤ 1000000) (w : World) (hi : m.In w) :
    Calls Tryz.prog 65 #[m.val] w fun e w' => e = .returned (fxE (mendA m.b)) ∧ Below w.heap.size w w' := by
  have HI := Lib.hid fun (w' : World) (hq : Below w.heap.size w w') => isBook_c m hm hrn w' (hi.keep hq)
  cases hb : bookB m.b
  · have HE := Lib.hid (show mendA m.b = (⟨0, 0, 0, 0⟩, 2) by simp [mendA, hb])
    rw [HE.out]
    rw [hb] at HI
    clear hi hm hrn hb HE
    obtain ⟨R, A, D, rn, rc, an, ac, dn, dc, ss, b⟩ := m
    simp only [Bm.val] at *
    have F0 := Lib.hid ((Has.new w 80 #[.slice R rn rc, .slice A an ac, .slice D dn dc, .int .i64 b.all]).alloc (.cells #[.int .i64 0, .int .i64 0, .int .i64 0, .int .i64 0] 90))
    have Z0 := Lib.hid (Has.new' (w.alloc (.cells #[.slice R rn rc, .slice A an ac, .slice D dn dc, .int .i64 b.all] 80)) 90 #[.int .i64 0, .int .i64 0, .int .i64 0, .int .i64 0] (g := w.heap.size + 1) (by simp))
    have B0 := Lib.hid (newB (newB (Below.refl w.heap.size w) (.cells #[.slice R rn rc, .slice A an ac, .slice D dn dc, .int .i64 b.all] 80)) (.cells #[.int .i64 0, .int .i64 0, .int .i64 0, .int .i64 0] 90))
    go_enter Tryz.func65, Tryz.ntmps65
    go_wp2_with (first
      | (refine wpList_load_row rfl 80 _ rfl w.heap.size rfl 80 _ (0, 0) _ F0.out Tryz.underlying80 rfl (by kernel_rfl) ?_)
      | (go_at_call 111; refine (HI.out _ B0.out).mono ?_; rintro e w1 ⟨rfl, hb1⟩; have HB1 := Lib.hid (nextB B0.out hb1); have Z1 := Lib.hid (Z0.out.after hb1); clear hb1)
      | (refine wpList_store_all rfl 90 _ _ rfl (w.heap.size + 1) rfl _ rfl 90 _ Z1.out (by kernel_rfl) rfl (by simp [Value.oneCell']) ?_))
    exact bodyPost_ret (results_row_tmp Tryz.results65 _ _ (w.heap.size + 1) 90 _ (0, 0) _ rfl (Z1.out.setRow _) Tryz.underlying90 rfl (by kernel_rfl)) rfl ⟨rfl, rowB HB1.out (by omega) _⟩
  · have ok := (bookB_iff _).1 hb
    have HCp := Lib.hid fun (w' : World) (hq : Below w.heap.size w w') => copied_c m hm (by have := ok.r; omega) hrn w' (hi.keep hq)
    have HCl := Lib.hid fun (cb : Bool) (hcb : closesB m.b = cb) (m' : Bm) (hmb : m'.b = m.b) (w' : World) (hi' : m'.In w') => (closes_c m' (by rw [hmb]; exact hb) w' hi').mono (R' := fun e w'' => e = .returned (.bool cb) ∧ Below w'.heap.size w' w'') fun e w2 h => ⟨by rw [h.1, hmb, hcb], h.2⟩
    have HMd := Lib.hid fun (B g : Nat) (o : Option Fx) (ho : mendF m.b = o) (m' : Bm) (hmb : m'.b = m.b) (w' : World) (hO : BOwn B m' w') (hg : Has w' g 138 m'.cells) => (mend_c hO hg (by rw [hmb]; exact hb)).mono (R' := fun e w'' => e = .returned (mendV o) ∧ Below w'.heap.size w' w'') fun e w2 h => ⟨by rw [h.1, hmb, ho], h.2⟩
    rw [hb] at HI
    have HE := Lib.hid (show mendA m.b = if closesB m.b then (⟨0, 0, 0, 0⟩, 7) else mendN (mendF m.b) by simp [mendA, hb])
    have HV := Lib.hid (show ∀ m' : Bm, m'.val = .agg m'.cells from fun _ => rfl)
    have HSz := Lib.hid (show ∀ m' : Bm, m'.cells.size = 4 from fun _ => rfl)
    clear hi hm hrn hb ok
    obtain ⟨R, A, D, rn, rc, an, ac, dn, dc, ss, b⟩ := m
    simp only [show ∀ (R A D : Option Addr) (rn rc an ac dn dc : Nat) (ss : List Sl3) (b : Bk), (Bm.mk R A D rn rc an ac dn dc ss b).val = .agg #[.slice R rn rc, .slice A an ac, .slice D dn dc, .int .i64 b.all] from fun _ _ _ _ _ _ _ _ _ _ _ => rfl] at *
    generalize mendA b = ans at *
    have F0 := Lib.hid ((Has.new w 80 #[.slice R rn rc, .slice A an ac, .slice D dn dc, .int .i64 b.all]).alloc (.cells #[.int .i64 0, .int .i64 0, .int .i64 0, .int .i64 0] 90))
    have Z0 := Lib.hid (Has.new' (w.alloc (.cells #[.slice R rn rc, .slice A an ac, .slice D dn dc, .int .i64 b.all] 80)) 90 #[.int .i64 0, .int .i64 0, .int .i64 0, .int .i64 0] (g := w.heap.size + 1) (by simp))
    have B0 := Lib.hid (newB (newB (Below.refl w.heap.size w) (.cells #[.slice R rn rc, .slice A an ac, .slice D dn dc, .int .i64 b.all] 80)) (.cells #[.int .i64 0, .int .i64 0, .int .i64 0, .int .i64 0] 90))
    cases hcl : closesB b
    · rw [hcl] at HE
      have HCl2 := Lib.hid (HCl.out false hcl)
      clear hcl HCl
      cases hmd : mendF b with
      | none =>
        rw [hmd] at HE
        have HMd2 := Lib.hid fun (B g : Nat) => HMd.out B g none hmd
        clear hmd HMd
        go_enter Tryz.func65, Tryz.ntmps65
        go_wp2_with (first
          | (refine wpList_load_row rfl 80 _ rfl w.heap.size rfl 80 _ (0, 0) _ F0.out Tryz.underlying80 rfl (by kernel_rfl) ?_)
          | (refine wpList_load_row rfl 80 _ rfl w.heap.size rfl 80 _ (0, 0) _ F1.out Tryz.underlying80 rfl (by kernel_rfl) ?_)
          | (go_at_call 111; refine (HI.out _ B0.out).mono ?_; rintro e w1 ⟨rfl, hb1⟩; have HB1 := Lib.hid (nextB B0.out hb1); have F1 := Lib.hid (F0.out.after hb1); have Z1 := Lib.hid (Z0.out.after hb1); clear hb1)
          | (go_at_call 113; refine (HCp.out _ HB1.out).mono ?_; rintro e w2 ⟨⟨R2, A2, D2, rn2, rc2, an2, ac2, dn2, dc2, ss2, b2⟩, rfl, hm2, hO2, hb2⟩; have hm3 : b2 = b := hm2; subst hm3; simp only; have hb3 := rowB (newB (Below.refl w2.heap.size w2) (.cells #[.slice none 0 0, .slice none 0 0, .slice none 0 0, .int .i64 0] 138)) (Nat.le_refl _) #[.slice R2 rn2 rc2, .slice A2 an2 ac2, .slice D2 dn2 dc2, .int .i64 b2.all]; have HO2 := Lib.hid (hO2.keep hb3); have HB2 := Lib.hid (nextB (nextB HB1.out hb2) hb3); have Z2 := Lib.hid ((Z1.out.after hb2).after hb3); have G2 := Lib.hid ((Has.new w2 138 #[.slice none 0 0, .slice none 0 0, .slice none 0 0, .int .i64 0]).setRow #[.slice R2 rn2 rc2, .slice A2 an2 ac2, .slice D2 dn2 dc2, .int .i64 b2.all]); clear hb2 hm2 hO2 hb3)
          | (refine wpList_store_all rfl 138 _ _ rfl w2.heap.size rfl _ rfl 138 _ (Has.new w2 138 _) (by kernel_rfl) rfl (by simp [Value.oneCell']) ?_)
          | (refine wpList_load_row rfl 138 _ rfl w2.heap.size rfl 138 _ (0, 0) _ G2.out Tryz.underlying138 rfl (by kernel_rfl) ?_)
          | (go_at_call 112; refine (HCl2.out ⟨R2, A2, D2, rn2, rc2, an2, ac2, dn2, dc2, ss2, b2⟩ rfl _ HO2.out.toIn).mono ?_; rintro e w4 ⟨rfl, hb4⟩; have HB4 := Lib.hid (nextB HB2.out hb4); have HO4 := Lib.hid (HO2.out.keep hb4); have Z4 := Lib.hid (Z2.out.after hb4); have G4 := Lib.hid (G2.out.after hb4); clear hb4)
          | (refine wpList_store_all rfl 90 _ _ rfl (w.heap.size + 1) rfl _ rfl 90 _ Z4.out (by kernel_rfl) rfl (by simp [Value.oneCell']) ?_)
          | (go_at_call 114; refine (HMd2.out _ _ ⟨R2, A2, D2, rn2, rc2, an2, ac2, dn2, dc2, ss2, b2⟩ rfl _ HO4.out G4.out).mono ?_; rintro e w5 ⟨rfl, hb5⟩; simp only [mendV, Fx.val]; have HB5 := Lib.hid (nextB HB4.out hb5); have Z5 := Lib.hid (Z4.out.after hb5); clear hb5)
          | (refine wpList_store_all rfl 90 _ _ rfl w5.heap.size rfl _ rfl 90 _ (Has.new w5 90 _) (by kernel_rfl) rfl (by simp [Value.oneCell']) ?_)
          | (refine wpList_load_row rfl 90 _ rfl w5.heap.size rfl 90 _ (0, 0) _ ((Has.new w5 90 _).setRow _) Tryz.underlying90 rfl (by kernel_rfl) ?_)
          | (refine wpList_store_all rfl 90 _ _ rfl (w.heap.size + 1) rfl _ rfl 90 _ ((Z5.out.alloc _).setRow_far (show w.heap.size + 1 ≠ w5.heap.size from by have := Z5.out.lt; omega) _) (by kernel_rfl) rfl (by simp [Value.oneCell']) ?_))
        rw [HE.out]
        exact bodyPost_ret (results_row_tmp Tryz.results65 _ _ (w.heap.size + 1) 90 _ (0, 0) _ rfl (((Z5.out.alloc _).setRow_far (show w.heap.size + 1 ≠ w5.heap.size from by have := Z5.out.lt; omega) _).setRow _) Tryz.underlying90 rfl (by kernel_rfl)) rfl ⟨rfl, rowB (rowB (newB HB5.out _) HB5.out.size _) (by omega) _⟩
      | some f =>
        rw [hmd] at HE
        have HMd2 := Lib.hid fun (B g : Nat) => HMd.out B g (some f) hmd
        clear hmd HMd
        obtain ⟨f1, f2, f3, f4⟩ := f
        go_enter Tryz.func65, Tryz.ntmps65
        go_wp2_with (first
          | (refine wpList_load_row rfl 80 _ rfl w.heap.size rfl 80 _ (0, 0) _ F0.out Tryz.underlying80 rfl (by kernel_rfl) ?_)
          | (refine wpList_load_row rfl 80 _ rfl w.heap.size rfl 80 _ (0, 0) _ F1.out Tryz.underlying80 rfl (by kernel_rfl) ?_)
          | (go_at_call 111; refine (HI.out _ B0.out).mono ?_; rintro e w1 ⟨rfl, hb1⟩; have HB1 := Lib.hid (nextB B0.out hb1); have F1 := Lib.hid (F0.out.after hb1); have Z1 := Lib.hid (Z0.out.after hb1); clear hb1)
          | (go_at_call 113; refine (HCp.out _ HB1.out).mono ?_; rintro e w2 ⟨⟨R2, A2, D2, rn2, rc2, an2, ac2, dn2, dc2, ss2, b2⟩, rfl, hm2, hO2, hb2⟩; have hm3 : b2 = b := hm2; subst hm3; simp only; have hb3 := rowB (newB (Below.refl w2.heap.size w2) (.cells #[.slice none 0 0, .slice none 0 0, .slice none 0 0, .int .i64 0] 138)) (Nat.le_refl _) #[.slice R2 rn2 rc2, .slice A2 an2 ac2, .slice D2 dn2 dc2, .int .i64 b2.all]; have HO2 := Lib.hid (hO2.keep hb3); have HB2 := Lib.hid (nextB (nextB HB1.out hb2) hb3); have Z2 := Lib.hid ((Z1.out.after hb2).after hb3); have G2 := Lib.hid ((Has.new w2 138 #[.slice none 0 0, .slice none 0 0, .slice none 0 0, .int .i64 0]).setRow #[.slice R2 rn2 rc2, .slice A2 an2 ac2, .slice D2 dn2 dc2, .int .i64 b2.all]); clear hb2 hm2 hO2 hb3)
          | (refine wpList_store_all rfl 138 _ _ rfl w2.heap.size rfl _ rfl 138 _ (Has.new w2 138 _) (by kernel_rfl) rfl (by simp [Value.oneCell']) ?_)
          | (refine wpList_load_row rfl 138 _ rfl w2.heap.size rfl 138 _ (0, 0) _ G2.out Tryz.underlying138 rfl (by kernel_rfl) ?_)
          | (go_at_call 112; refine (HCl2.out ⟨R2, A2, D2, rn2, rc2, an2, ac2, dn2, dc2, ss2, b2⟩ rfl _ HO2.out.toIn).mono ?_; rintro e w4 ⟨rfl, hb4⟩; have HB4 := Lib.hid (nextB HB2.out hb4); have HO4 := Lib.hid (HO2.out.keep hb4); have Z4 := Lib.hid (Z2.out.after hb4); have G4 := Lib.hid (G2.out.after hb4); clear hb4)
          | (refine wpList_store_all rfl 90 _ _ rfl (w.heap.size + 1) rfl _ rfl 90 _ Z4.out (by kernel_rfl) rfl (by simp [Value.oneCell']) ?_)
          | (go_at_call 114; refine (HMd2.out _ _ ⟨R2, A2, D2, rn2, rc2, an2, ac2, dn2, dc2, ss2, b2⟩ rfl _ HO4.out G4.out).mono ?_; rintro e w5 ⟨rfl, hb5⟩; simp only [mendV, Fx.val]; have HB5 := Lib.hid (nextB HB4.out hb5); have Z5 := Lib.hid (Z4.out.after hb5); clear hb5)
          | (refine wpList_store_all rfl 90 _ _ rfl w5.heap.size rfl _ rfl 90 _ (Has.new w5 90 _) (by kernel_rfl) rfl (by simp [Value.oneCell']) ?_)
          | (refine wpList_load_row rfl 90 _ rfl w5.heap.size rfl 90 _ (0, 0) _ ((Has.new w5 90 _).setRow _) Tryz.underlying90 rfl (by kernel_rfl) ?_)
          | (refine wpList_store_all rfl 90 _ _ rfl (w.heap.size + 1) rfl _ rfl 90 _ ((Z5.out.alloc _).setRow_far (show w.heap.size + 1 ≠ w5.heap.size from by have := Z5.out.lt; omega) _) (by kernel_rfl) rfl (by simp [Value.oneCell']) ?_))
        rw [HE.out]
        exact bodyPost_ret (results_row_tmp Tryz.results65 _ _ (w.heap.size + 1) 90 _ (0, 0) _ rfl (((Z5.out.alloc _).setRow_far (show w.heap.size + 1 ≠ w5.heap.size from by have := Z5.out.lt; omega) _).setRow _) Tryz.underlying90 rfl (by kernel_rfl)) rfl ⟨rfl, rowB (rowB (newB HB5.out _) HB5.out.size _) (by omega) _⟩
    · rw [hcl] at HE
      have HCl2 := Lib.hid (HCl.out true hcl)
      clear hcl HCl HMd
      go_enter Tryz.func65, Tryz.ntmps65
      go_wp2_with (first
          | (refine wpList_load_row rfl 80 _ rfl w.heap.size rfl 80 _ (0, 0) _ F0.out Tryz.underlying80 rfl (by kernel_rfl) ?_)
          | (refine wpList_load_row rfl 80 _ rfl w.heap.size rfl 80 _ (0, 0) _ F1.out Tryz.underlying80 rfl (by kernel_rfl) ?_)
          | (go_at_call 111; refine (HI.out _ B0.out).mono ?_; rintro e w1 ⟨rfl, hb1⟩; have HB1 := Lib.hid (nextB B0.out hb1); have F1 := Lib.hid (F0.out.after hb1); have Z1 := Lib.hid (Z0.out.after hb1); clear hb1)
          | (go_at_call 113; refine (HCp.out _ HB1.out).mono ?_; rintro e w2 ⟨⟨R2, A2, D2, rn2, rc2, an2, ac2, dn2, dc2, ss2, b2⟩, rfl, hm2, hO2, hb2⟩; have hm3 : b2 = b := hm2; subst hm3; simp only; have hb3 := rowB (newB (Below.refl w2.heap.size w2) (.cells #[.slice none 0 0, .slice none 0 0, .slice none 0 0, .int .i64 0] 138)) (Nat.le_refl _) #[.slice R2 rn2 rc2, .slice A2 an2 ac2, .slice D2 dn2 dc2, .int .i64 b2.all]; have HO2 := Lib.hid (hO2.keep hb3); have HB2 := Lib.hid (nextB (nextB HB1.out hb2) hb3); have Z2 := Lib.hid ((Z1.out.after hb2).after hb3); have G2 := Lib.hid ((Has.new w2 138 #[.slice none 0 0, .slice none 0 0, .slice none 0 0, .int .i64 0]).setRow #[.slice R2 rn2 rc2, .slice A2 an2 ac2, .slice D2 dn2 dc2, .int .i64 b2.all]); clear hb2 hm2 hO2 hb3)
          | (refine wpList_store_all rfl 138 _ _ rfl w2.heap.size rfl _ rfl 138 _ (Has.new w2 138 _) (by kernel_rfl) rfl (by simp [Value.oneCell']) ?_)
          | (refine wpList_load_row rfl 138 _ rfl w2.heap.size rfl 138 _ (0, 0) _ G2.out Tryz.underlying138 rfl (by kernel_rfl) ?_)
          | (go_at_call 112; refine (HCl2.out ⟨R2, A2, D2, rn2, rc2, an2, ac2, dn2, dc2, ss2, b2⟩ rfl _ HO2.out.toIn).mono ?_; rintro e w4 ⟨rfl, hb4⟩; have HB4 := Lib.hid (nextB HB2.out hb4); have HO4 := Lib.hid (HO2.out.keep hb4); have Z4 := Lib.hid (Z2.out.after hb4); have G4 := Lib.hid (G2.out.after hb4); clear hb4)
          | (refine wpList_store_all rfl 90 _ _ rfl (w.heap.size + 1) rfl _ rfl 90 _ Z4.out (by kernel_rfl) rfl (by simp [Value.oneCell']) ?_))
      rw [HE.out]
      exact bodyPost_ret (results_row_tmp Tryz.results65 _ _ (w.heap.size + 1) 90 _ (0, 0) _ rfl (Z4.out.setRow _) Tryz.underlying90 rfl (by kernel_rfl)) rfl ⟨rfl, rowB HB4.out (by omega) _⟩
end Go.Proofs
