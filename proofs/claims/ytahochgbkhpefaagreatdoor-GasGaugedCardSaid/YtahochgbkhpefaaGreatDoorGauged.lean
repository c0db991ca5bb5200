/-
  The statement GasGauged holds for every input: the law returns true and what came in reads as before.
-/
import Derived.Test.YtahochgbkhpefaaGreatDoorP18
import Derived.Deep.Cut
import Derived.Deep.CutRange
import Derived.Test.YtahochgbkhpefaaGreatDoorP11
import Derived.Test.YtahochgbkhpefaaGreatDoorRows
import Derived.Test.YtahochgbkhpefaaGreatDoorTie
import Derived.Test.YtahochgbkhpefaaGreatDoorCards
import Derived.Test.YtahochgbkhpefaaGreatDoorChecked
import Derived.ProofKit
import Derived.OpenShut
import Derived.LaidMore
import Derived.Stop.Joined
import Derived.SevenTiedAt
import Derived.Carry
namespace Go.Proofs
open Go.RowKit Go.Shelf Gas
attribute [local go_sem ↓] Go.wp_at_zero Go.wp_at_succ

theorem strF_mono {d s t : Int} (hd : 0 ≤ d) (h : s ≤ t) : strF d s ≤ strF d t := by
  unfold strF
  exact Int.ediv_le_ediv (by omega) (Int.mul_le_mul_of_nonneg_left (by omega) hd)
/-- What is read with some stretch; with the least one, if that stretch is none. -/
def readF (s : So) (st : Int) : Int := if s.l ≤ st ∧ st ≤ s.h then strF s.d st else strF s.d s.l
theorem readF_bd {s : So} (h : soB s = true) (st : Int) : strF s.d s.l ≤ readF s st ∧ readF s st ≤ strF s.d s.h := by
  simp only [soB, Bool.and_eq_true] at h
  obtain ⟨⟨q1, q2⟩, q3⟩ := h
  have p1 := of_decide_eq_true q1; have p2 := of_decide_eq_true q2
  unfold readF
  split
  · rename_i hs
    exact ⟨strF_mono p1.1 hs.1, strF_mono p1.1 hs.2⟩
  · exact ⟨Int.le_refl _, strF_mono p1.1 p2.2.1⟩
/-- A depth that agrees with a sounding lies within what it leaves open. -/
theorem read_in {s : So} (h : soB s = true) {st depth : Int} (h0 : 0 ≤ depth) (hr : max (depth - readF s st) (readF s st - depth) ≤ s.e) : (soF s).1 ≤ depth ∧ depth ≤ (soF s).2 := by
  have hb := readF_bd h st
  show max 0 (strF s.d s.l - s.e) ≤ depth ∧ depth ≤ strF s.d s.h + s.e
  omega
theorem narF_in {x : Int} : ∀ (ys : List Pr) (a b : Int), a ≤ x → x ≤ b → (∀ y ∈ ys, y.1 ≤ x ∧ x ≤ y.2) → (narF a b ys).1 ≤ x ∧ x ≤ (narF a b ys).2
  | [], a, b, h1, h2, _ => ⟨h1, h2⟩
  | y :: r, a, b, h1, h2, h => by
    have hy := h y (by simp)
    exact narF_in r (max a y.1) (min b y.2) (by omega) (by omega) (fun z hz => h z (by simp [hz]))
/-- If a depth agrees with all soundings, they leave it open. -/
theorem dep_in {n : Nat} {xs : List So} (hs : soundsB n xs = true) {depth : Int} (h1 : depth ≤ 100) (h0 : 0 ≤ depth) (hall : ∀ (j : Nat) x, xs[j]? = some x → (soF x).1 ≤ depth ∧ depth ≤ (soF x).2) (hn : xs ≠ []) :
    (depR n xs).2 = 0 ∧ (depR n xs).1.1 ≤ depth ∧ depth ≤ (depR n xs).1.2 := by
  have hin := narF_in (x := depth) (xs.map soF) 0 400 h0 (by omega) (fun y hy => by
    obtain ⟨s, hs, rfl⟩ := List.mem_map.1 hy
    obtain ⟨j, hj, e⟩ := List.getElem_of_mem hs
    exact hall j s (by rw [← e]; exact List.getElem?_eq_getElem hj))
  rcases dep_cases n xs with ⟨q1, _⟩ | ⟨_, _, q3⟩ | ⟨_, q2⟩
  · rw [hs] at q1; cases q1
  · rcases q3 with ⟨q3, q4⟩ | ⟨q3, q4⟩
    · omega
    · rw [q4]; exact ⟨rfl, hin⟩
  · exact absurd q2 hn
theorem dep_err {n : Nat} {xs : List So} (hs : soundsB n xs = true) (hn : xs ≠ []) : (depR n xs).2 = 0 ∨ (depR n xs).2 = 7 := by
  rcases dep_cases n xs with ⟨q1, _⟩ | ⟨_, _, q3⟩ | ⟨_, q2⟩
  · rw [hs] at q1; cases q1
  · rcases q3 with ⟨q3, q4⟩ | ⟨q3, q4⟩
    · rw [q4]; exact .inr rfl
    · rw [q4]; exact .inl rfl
  · exact absurd q2 hn
/-- If a time is as a clock says, it is left open. -/
theorem min_in {d l h x y t : Int} (hc : clkB d l h x y = true) (h1 : d * l ≤ t) (h2 : t ≤ (d + 1) * h - 1) (h3 : x ≤ t) (h4 : t ≤ y) :
    (minR d l h x y).2 = 0 ∧ (minR d l h x y).1.1 ≤ t ∧ t ≤ (minR d l h x y).1.2 := by
  have hin : (narF (ranF d l h).1 (ranF d l h).2 [(x, y)]).1 ≤ t ∧ t ≤ (narF (ranF d l h).1 (ranF d l h).2 [(x, y)]).2 := narF_in (x := t) [(x, y)] _ _ h1 h2 (fun z hz => by
    obtain rfl : z = (x, y) := by simpa using hz
    exact ⟨h3, h4⟩)
  rcases min_cases d l h x y with ⟨q1, _⟩ | ⟨_, q3⟩
  · rw [hc] at q1; cases q1
  · rcases q3 with ⟨q3, q4⟩ | ⟨q3, q4⟩
    · omega
    · rw [q4]; exact ⟨rfl, hin⟩
theorem min_err {d l h x y : Int} (hc : clkB d l h x y = true) : (minR d l h x y).2 = 0 ∨ (minR d l h x y).2 = 7 := by
  rcases min_cases d l h x y with ⟨q1, _⟩ | ⟨_, q3⟩
  · rw [hc] at q1; cases q1
  · rcases q3 with ⟨q3, q4⟩ | ⟨q3, q4⟩
    · rw [q4]; exact .inr rfl
    · rw [q4]; exact .inl rfl
theorem run_bd {l h r : Int} (hl : l ≤ h) (hr : 0 ≤ r ∧ r ≤ 100) : 0 ≤ ((h - l) * r).tdiv 100 ∧ ((h - l) * r).tdiv 100 ≤ h - l := by
  have m1 : 0 ≤ (h - l) * r := Int.mul_nonneg (by omega) hr.1
  have m2 : (h - l) * r ≤ (h - l) * 100 := Int.mul_le_mul_of_nonneg_left hr.2 (by omega)
  rw [Int.tdiv_eq_ediv_of_nonneg m1]
  omega
end Go.Proofs
namespace Go.Proofs
open Go.RowKit Go.Shelf Gas
attribute [local go_sem ↓] Go.wp_at_zero Go.wp_at_succ

set_option maxHeartbeats 8000000 in
set_option maxRecDepth 50000 in
theorem gauged_main (A A2 A4 : Option Addr) (n c n2 c2 n4 c4 : Nat) (xs : List So) (ss rs : List Int) (dep l h x y rest : Int) (dn : Nat) (w : World) (hs : SlOf So.cs 4 w A n xs) (hs2 : SlOf inC 1 w A2 n2 ss) (hs4 : SlOf inC 1 w A4 n4 rs)
    (hn : n ≤ 7) (e2n : n2 = n) (hS : soundsB n xs = true) (hC : clkB dn l h x y = true) (e4n : n4 = dn + 1) (d0 : 0 ≤ dep) (d1 : dep ≤ 100) (r0 : 0 ≤ rest) (e1 e2 a1 b1 a2 b2 : Int)
    (HD : ∀ W, Below w.heap.size w W → Calls Tryz.prog 16 #[.slice A n c] W fun e w' => e = .returned (.tuple #[.agg #[.int .i64 a1, .int .i64 b1], .int .i64 e1]) ∧ Below W.heap.size W w')
    (HM : ∀ W, Calls Tryz.prog 17 #[.agg #[.int .i64 dn, .int .i64 l, .int .i64 h, .int .i64 x, .int .i64 y]] W fun e w' => e = .returned (.tuple #[.agg #[.int .i64 a2, .int .i64 b2], .int .i64 e2]) ∧ Below W.heap.size W w')
    (he1 : e1 = 0 ∨ e1 = 7) (he2 : e2 = 0 ∨ e2 = 7)
    (G1 : (∀ (j : Nat) s, xs[j]? = some s → (soF s).1 ≤ dep ∧ dep ≤ (soF s).2) → e1 = 0 ∧ a1 ≤ dep ∧ dep ≤ b1)
    (G2 : ∀ t : Int, dn * l ≤ t → t ≤ (dn + 1) * h - 1 → x ≤ t → t ≤ y → e2 = 0 ∧ a2 ≤ t ∧ t ≤ b2) :
    Calls Tryz.prog 4 #[.slice A n c, .int .i64 dep, .slice A2 n2 c2, .agg #[.int .i64 dn, .int .i64 l, .int .i64 h, .int .i64 x, .int .i64 y], .slice A4 n4 c4, .int .i64 rest] w fun e w' => e = .returned (.bool true) ∧ Below w.heap.size w w' := by
  subst e2n; subst e4n
  have HX := Lib.hid hs; have HT := Lib.hid hs2; have HR := Lib.hid hs4; have HXn := Lib.hid hs.1; have HTn := Lib.hid hs2.1; have HRn := Lib.hid hs4.1
  have HSd := Lib.hid fun (W : World) (hb : Below w.heap.size w W) => refSoundings_c A n2 c xs (by omega) W (hs.keep hb)
  have HCl := Lib.hid fun (W : World) => refClock_c dn l h x y W
  have HA := Lib.hid (show ∀ s ∈ xs, soB s = true by
    simp only [soundsB, Bool.and_eq_true] at hS
    exact List.all_eq_true.1 hS.1)
  rw [hS] at HSd; rw [hC] at HCl
  simp only [clkB, Bool.and_eq_true] at hC
  have k1 := of_decide_eq_true hC.1; have k2 := of_decide_eq_true hC.2.1; have k3 := of_decide_eq_true hC.2.2
  replace HD := Lib.hid HD; replace HM := Lib.hid HM; replace G1 := Lib.hid G1; replace G2 := Lib.hid G2
  clear hs hs2 hs4 hS hC
  have q1 : ¬ n2 > 7 := by omega
  have q2 : ¬ dep < 0 := by omega
  have q3 : ¬ dep > 100 := by omega
  have q4 : ¬ rest < 0 := by omega
  have q5 : IntKind.i64.wrap ((dn : Int) + 1) = (dn : Int) + 1 := wI (by omega) (by omega)
  have F := Lib.hid (Has.new w 26 #[.int .i64 dn, .int .i64 l, .int .i64 h, .int .i64 x, .int .i64 y])
  have B0 := Lib.hid (newB (Below.refl w.heap.size w) (.cells #[.int .i64 dn, .int .i64 l, .int .i64 h, .int .i64 x, .int .i64 y] 26))
  go_enter Tryz.func4, Tryz.ntmps4
  go_upto_region 5 with (first
    | (go_at_call 20; refine (HSd.out _ B0.out).mono ?_; rintro e w20 ⟨rfl, hb⟩; have F1 := Lib.hid (F.out.after hb); have B1 := Lib.hid (nextB B0.out hb); have c1 := F1.out.cell; clear hb)
    | (refine wpList_load_row rfl 26 _ rfl w.heap.size rfl 26 _ (0, 0) _ F1.out Tryz.underlying26 rfl (by kernel_rfl) ?_)
    | (go_at_call 21; refine (HCl.out _).mono ?_; rintro e w21 ⟨rfl, hb⟩; have F2 := Lib.hid (F1.out.after hb); have B2 := Lib.hid (nextB B1.out hb); have c2 := F2.out.cell; clear c1; clear hb)
    | (go_at_call 16; refine (HD.out _ B2.out).mono ?_; rintro e w16 ⟨rfl, hb⟩; have F3 := Lib.hid ((F2.out.after hb).alloc (.cells #[.int .i64 a1, .int .i64 b1] 24)); have B3 := Lib.hid (newB (nextB B2.out hb) (.cells #[.int .i64 a1, .int .i64 b1] 24)); have H5 := Lib.hid (Has.new w16 24 #[.int .i64 a1, .int .i64 b1]); clear hb)
    | (refine wpList_load_row rfl 26 _ rfl w.heap.size rfl 26 _ (0, 0) _ F3.out Tryz.underlying26 rfl (by kernel_rfl) ?_)
    | (go_at_call 17; refine (HM.out _).mono ?_; rintro e w17 ⟨rfl, hb⟩; have F4 := Lib.hid ((F3.out.after hb).alloc (.cells #[.int .i64 a2, .int .i64 b2] 24)); have B4 := Lib.hid (newB (nextB B3.out hb) (.cells #[.int .i64 a2, .int .i64 b2] 24)); have J5 := Lib.hid ((H5.out.after hb).alloc (.cells #[.int .i64 a2, .int .i64 b2] 24)); have J7 := Lib.hid (Has.new w17 24 #[.int .i64 a2, .int .i64 b2]); clear hb))
  clear c2 F F1 F2 F3 B0 B1 B2 B3 H5 HD HM HSd HCl
  generalize w16.heap.size = g5 at *
  generalize hg7 : w17.heap.size = g7 at *
  clear hg7
  generalize w17.alloc (.cells #[.int .i64 a2, .int .i64 b2] 24) = wo at *
  go_cut [88] from 75 to 88 (fun s wx => s = .bool false ∧ wo = wx)
  case first =>
    rcases he1 with rfl | rfl
    all_goals rcases he2 with rfl | rfl
    all_goals
      go_wp2_with fail
      go_meet
      exact ⟨rfl, rfl⟩
  case rest =>
   obtain ⟨rfl, rfl⟩ := hcut
   clear he1 he2
   go_wp2
   go_loopw [17, 18] (fun v i wr => ∃ k : Nat, ∃ b : Bool, k ≤ n2 ∧ i = .int .i64 k ∧ v = .bool b ∧ Below wo.heap.size wo wr ∧ (b = true → ∀ (j : Nat) s, j < k → xs[j]? = some s → (soF s).1 ≤ dep ∧ dep ≤ (soF s).2)) (fun _ i _ => n2 - (intOf i).toNat)
   case atStart => exact ⟨0, true, by omega, rfl, rfl, Below.refl _ _, fun _ j s hj => absurd hj (by omega)⟩
   case round =>
     obtain ⟨k, b, hk, rfl, rfl, hB, hP⟩ := hrel
     have HB := Lib.hid hB; have HP := Lib.hid hP
     clear hB hP
     by_cases hkn : k < n2
     · have hkl : k < xs.length := by rw [HXn.out]; exact hkn
       have hkt : k < ss.length := by rw [HTn.out]; exact hkn
       obtain ⟨bx, ox, he⟩ := HX.out.addr (by omega)
       obtain ⟨bt, ot, he2⟩ := HT.out.addr (by omega)
       have hx := List.getElem?_eq_getElem hkl
       have ht := List.getElem?_eq_getElem hkt
       have hso := HA.out _ (List.getElem_mem hkl)
       obtain ⟨s, hss⟩ : ∃ s, s = xs[k] := ⟨_, rfl⟩
       obtain ⟨st, hst⟩ : ∃ s, s = ss[k] := ⟨_, rfl⟩
       rw [← hss] at hx hso
       rw [← hst] at ht
       subst he; subst he2
       have hR := Lib.hid ((HX.out.keep (nextB B4.out HB.out)).range So.cs_len hx)
       have HXk := Lib.hid hx
       have CT := Lib.hid fun (W : World) (hb : Below wr.heap.size wr W) => (show W.cell? ⟨bt, ot + k, none⟩ = some (.int .i64 st) by simpa using ((HT.out.keep (nextB (nextB B4.out HB.out) hb)).range inC_len ht) 0 _ rfl)
       clear hx hss ht hst hkl hkt
       have HIn := Lib.hid fun hr => read_in hso (st := st) d0 hr
       obtain ⟨d, sl, sh, er⟩ := s
       replace hR := Lib.hid (show wr.rangeAt bx (ox + k * 4) [.int .i64 d, .int .i64 sl, .int .i64 sh, .int .i64 er] from hR.out)
       simp only [soB, Bool.and_eq_true] at hso
       obtain ⟨⟨z1, z2⟩, z3⟩ := hso
       have p1 := of_decide_eq_true z1; have p2 := of_decide_eq_true z2; have p3 := of_decide_eq_true z3
       have s1 := strF_bd (d := d) (s := sl) (by omega) (by omega)
       have m1 := mul_le (d := d) (s := 100 + sl) (D := 40) (S := 120) (by omega) (by omega)
       have w1 : IntKind.i64.wrap (100 + sl) = 100 + sl := wI (by omega) (by omega)
       have y1 : Int.tdiv (d * (100 + sl)) 100 = strF d sl := Int.tdiv_eq_ediv_of_nonneg m1.1
       have w3 : IntKind.i64.wrap (d * (100 + sl)) = d * (100 + sl) := wI (by omega) (by omega)
       have w5 : IntKind.i64.wrap (strF d sl) = strF d sl := wI (by omega) (by omega)
       have N := Lib.hid (Has.new wr 39 #[.int .i64 d, .int .i64 sl, .int .i64 sh, .int .i64 er])
       have HB1 := Lib.hid (newB HB.out (.cells #[.int .i64 d, .int .i64 sl, .int .i64 sh, .int .i64 er] 39))
       have HBr := Lib.hid (newB (Below.refl wr.heap.size wr) (.cells #[.int .i64 d, .int .i64 sl, .int .i64 sh, .int .i64 er] 39))
       clear z1 z2 z3 m1
       go_wp2_with (refine wpList_load_mid rfl 39 _ rfl bx (ox + k * 4) rfl _ _ hR.out Tryz.underlying39 rfl (by kernel_rfl) ?_)
       generalize wr.alloc (.cells #[.int .i64 d, .int .i64 sl, .int .i64 sh, .int .i64 er] 39) = W at *
       have CN := Lib.hid fun (w' : World) (hb : Below W.heap.size W w') => (N.out.after hb).cell
       have CT2 := Lib.hid fun (w' : World) (hb : Below W.heap.size W w') => CT.out w' (nextB HBr.out hb)
       by_cases hge : sl ≤ st
       · by_cases hle : st ≤ sh
         · have p4 : 0 ≤ st ∧ st ≤ 20 := by omega
           have s2 := strF_bd (d := d) (s := st) (by omega) p4
           have m2 := mul_le (d := d) (s := 100 + st) (D := 40) (S := 120) (by omega) (by omega)
           have v1 : IntKind.i64.wrap (100 + st) = 100 + st := wI (by omega) (by omega)
           have v2 : Int.tdiv (d * (100 + st)) 100 = strF d st := Int.tdiv_eq_ediv_of_nonneg m2.1
           have v3 : IntKind.i64.wrap (d * (100 + st)) = d * (100 + st) := wI (by omega) (by omega)
           have v5 : IntKind.i64.wrap (strF d st) = strF d st := wI (by omega) (by omega)
           have HRd := Lib.hid (show readF ⟨d, sl, sh, er⟩ st = strF d st from if_pos ⟨hge, hle⟩)
           rw [HRd.out] at HIn
           clear m2 HRd
           generalize strF d st = r at *
           refine wp_free 18 (by kernel_rfl) (by kernel_rfl) (by kernel_rfl) (by decide) ?_
           intro K hK
           iterate 7 (apply Obl.val (by decide) (by kernel_rfl); (intro w' hb; have := CT2.out w' hb; have := CN.out w' hb; go_simp; try rfl))
           (apply Obl.val (v := .bool true) (by decide) (by kernel_rfl); (focus (intro w' hb; go_simp; try (first | omega | (simp; omega)))))
           iterate 8 (apply Obl.val (by decide) (by kernel_rfl); (intro w' hb; have := CT2.out w' hb; have := CN.out w' hb; go_simp; try rfl))
           (apply Obl.val (v := .bool true) (by decide) (by kernel_rfl); (focus (intro w' hb; go_simp; try (first | omega | (simp; omega)))))
           (apply Obl.val (by decide) (by kernel_rfl); (intro w' hb; go_simp; try rfl))
           apply Obl.nil
           apply hK
           intro w8 hb
           simp only [Act.put, List.setIfInBounds_toArray, List.set_cons_zero, List.set_cons_succ, List.drop_succ_cons, List.drop_zero]
           clear hK K
           have HB8 := Lib.hid (nextB HB1.out hb)
           have CN8 := Lib.hid fun (w' : World) (hb2 : Below w8.heap.size w8 w') => CN.out w' (nextB hb hb2)
           have CT8 := Lib.hid fun (w' : World) (hb2 : Below w8.heap.size w8 w') => CT2.out w' (nextB hb hb2)
           clear hb
           go_wp2
           refine wp_free 10 (by kernel_rfl) (by kernel_rfl) (by kernel_rfl) (by decide) ?_
           intro K hK
           iterate 10 (apply Obl.val (by decide) (by kernel_rfl); (intro w' hb; have := CT8.out w' hb; have := CN8.out w' hb; go_simp; try rfl))
           apply Obl.nil
           apply hK
           intro w9 hb
           simp only [Act.put, List.setIfInBounds_toArray, List.set_cons_zero, List.set_cons_succ, List.drop_succ_cons, List.drop_zero]
           clear hK K
           have HB9 := Lib.hid (nextB HB8.out hb)
           have cn := CN8.out w9 hb
           clear hb
           have u1 : IntKind.i64.wrap (dep - r) = dep - r := wI (by omega) (by omega)
           have u2 : IntKind.i64.wrap (r - dep) = r - dep := wI (by omega) (by omega)
           cases b
           · go_wp2
             go_roundw
             case rel => exact ⟨k + 1, false, by omega, by go_num, rfl, HB9.out, fun h => Bool.noConfusion h⟩
             case measure => simp [intOf]; omega
           · go_wp2
             go_roundw
             case rel =>
               refine ⟨k + 1, decide (max (dep - r) (r - dep) ≤ er), by omega, by go_num, by simp, HB9.out, fun h j z hj hz => ?_⟩
               rcases Nat.lt_succ_iff_lt_or_eq.1 hj with h' | rfl
               · exact HP.out rfl j z h' hz
               · rw [HXk.out] at hz; cases hz
                 exact HIn.out (of_decide_eq_true h)
             case measure => simp [intOf]; omega
         · have hd1 : True := trivial
           have HRd := Lib.hid (show readF ⟨d, sl, sh, er⟩ st = strF d sl from if_neg (fun hh => hle hh.2))
           rw [HRd.out] at HIn
           clear HRd w1 y1 w3 w5
           generalize strF d sl = r at *
           refine wp_free 18 (by kernel_rfl) (by kernel_rfl) (by kernel_rfl) (by decide) ?_
           intro K hK
           iterate 7 (apply Obl.val (by decide) (by kernel_rfl); (intro w' hb; have := CT2.out w' hb; have := CN.out w' hb; go_simp; try rfl))
           (apply Obl.val (v := .bool true) (by decide) (by kernel_rfl); (focus (intro w' hb; go_simp; try (first | omega | (simp; omega)))))
           iterate 8 (apply Obl.val (by decide) (by kernel_rfl); (intro w' hb; have := CT2.out w' hb; have := CN.out w' hb; go_simp; try rfl))
           (apply Obl.val (v := .bool false) (by decide) (by kernel_rfl); (focus (intro w' hb; go_simp; try (first | omega | (simp; omega)))))
           (apply Obl.val (by decide) (by kernel_rfl); (intro w' hb; go_simp; try rfl))
           apply Obl.nil
           apply hK
           intro w9 hb
           simp only [Act.put, List.setIfInBounds_toArray, List.set_cons_zero, List.set_cons_succ, List.drop_succ_cons, List.drop_zero]
           clear hK K
           have HB9 := Lib.hid (nextB HB1.out hb)
           have cn := CN.out w9 hb
           clear hb
           have u1 : IntKind.i64.wrap (dep - r) = dep - r := wI (by omega) (by omega)
           have u2 : IntKind.i64.wrap (r - dep) = r - dep := wI (by omega) (by omega)
           cases b
           · go_wp2
             go_roundw
             case rel => exact ⟨k + 1, false, by omega, by go_num, rfl, HB9.out, fun h => Bool.noConfusion h⟩
             case measure => simp [intOf]; omega
           · go_wp2
             go_roundw
             case rel =>
               refine ⟨k + 1, decide (max (dep - r) (r - dep) ≤ er), by omega, by go_num, by simp, HB9.out, fun h j z hj hz => ?_⟩
               rcases Nat.lt_succ_iff_lt_or_eq.1 hj with h' | rfl
               · exact HP.out rfl j z h' hz
               · rw [HXk.out] at hz; cases hz
                 exact HIn.out (of_decide_eq_true h)
             case measure => simp [intOf]; omega
       · have hd1 : True := trivial
         have HRd := Lib.hid (show readF ⟨d, sl, sh, er⟩ st = strF d sl from if_neg (fun hh => hge hh.1))
         rw [HRd.out] at HIn
         clear HRd w1 y1 w3 w5
         generalize strF d sl = r at *
         refine wp_free 18 (by kernel_rfl) (by kernel_rfl) (by kernel_rfl) (by decide) ?_
         intro K hK
         iterate 7 (apply Obl.val (by decide) (by kernel_rfl); (intro w' hb; have := CT2.out w' hb; have := CN.out w' hb; go_simp; try rfl))
         (apply Obl.val (v := .bool false) (by decide) (by kernel_rfl); (focus (intro w' hb; go_simp; try (first | omega | (simp; omega)))))
         (apply Obl.val (by decide) (by kernel_rfl); (intro w' hb; go_simp; try rfl))
         iterate 8 (apply Obl.skip (by decide) (by kernel_rfl))
         (apply Obl.val (by decide) (by kernel_rfl); (intro w' hb; go_simp; try rfl))
         apply Obl.nil
         apply hK
         intro w9 hb
         simp only [Act.put, List.setIfInBounds_toArray, List.set_cons_zero, List.set_cons_succ, List.drop_succ_cons, List.drop_zero]
         clear hK K
         have HB9 := Lib.hid (nextB HB1.out hb)
         have cn := CN.out w9 hb
         clear hb
         have u1 : IntKind.i64.wrap (dep - r) = dep - r := wI (by omega) (by omega)
         have u2 : IntKind.i64.wrap (r - dep) = r - dep := wI (by omega) (by omega)
         cases b
         · go_wp2
           go_roundw
           case rel => exact ⟨k + 1, false, by omega, by go_num, rfl, HB9.out, fun h => Bool.noConfusion h⟩
           case measure => simp [intOf]; omega
         · go_wp2
           go_roundw
           case rel =>
             refine ⟨k + 1, decide (max (dep - r) (r - dep) ≤ er), by omega, by go_num, by simp, HB9.out, fun h j z hj hz => ?_⟩
             rcases Nat.lt_succ_iff_lt_or_eq.1 hj with h' | rfl
             · exact HP.out rfl j z h' hz
             · rw [HXk.out] at hz; cases hz
               exact HIn.out (of_decide_eq_true h)
           case measure => simp [intOf]; omega
     · have hke : k = n2 := by omega
       subst hke
       have hBo := Lib.hid (nextB B4.out HB.out)
       have c5 := (J5.out.after HB.out).cell
       have F5 := Lib.hid (F4.out.after HB.out); have J8 := Lib.hid (J7.out.after HB.out)
       have HP2 := Lib.hid fun hb : b = true => G1.out fun j s hs => HP.out hb j s (by have := (List.getElem?_eq_some_iff.1 hs).1; rw [HXn.out] at this; exact this) hs
       clear HP G1 HB B4 F4 J5 J7 HX HT HXn HTn HA
       go_upto_region 16 with fail
       go_cut [163] from 147 to 163 (fun s wx => s = .bool false ∧ wr = wx)
       case first =>
         cases b
         · go_wp2_with fail
           go_meet
           exact ⟨rfl, rfl⟩
         · obtain ⟨rfl, g1, g2⟩ := HP2.out rfl
           have n1 : ¬ dep < a1 := by omega
           have n2 : ¬ dep > b1 := by omega
           go_wp2_with fail
           go_meet
           exact ⟨rfl, rfl⟩
       case rest =>
        obtain ⟨rfl, rfl⟩ := hcut
        clear HP2 c5
        go_wp2
        obtain ⟨wo2, rfl⟩ : ∃ wo2 : World, wo2 = wr := ⟨_, rfl⟩
        go_loopw [21, 22] (fun v i wr => ∃ j : Nat, ∃ T : Int, j ≤ dn + 1 ∧ i = .int .i64 j ∧ v = .int .i64 T ∧ Below wo2.heap.size wo2 wr ∧ 0 ≤ T ∧ T ≤ 60 * (j : Int) ∧ (j ≤ dn → (j : Int) * l ≤ T ∧ T ≤ (j : Int) * h) ∧ (j = dn + 1 → (dn : Int) * l ≤ T ∧ T ≤ ((dn : Int) + 1) * h - 1)) (fun _ i _ => dn + 1 - (intOf i).toNat)
        case atStart => exact ⟨0, 0, by omega, rfl, rfl, Below.refl _ _, by omega, by omega, fun _ => by simp, fun h => by omega⟩
        case round =>
          obtain ⟨j, T, hj, rfl, rfl, hB, t0, t1, hT1, hT2⟩ := hrel
          have HB := Lib.hid hB; have HT1 := Lib.hid hT1; have HT2 := Lib.hid hT2
          have HBw := Lib.hid (nextB hBo.out hB)
          have cF := (F5.out.after hB).cell
          clear hB hT1 hT2
          by_cases hjn : j < dn + 1
          · have hjl : j < rs.length := by rw [HRn.out]; exact hjn
            obtain ⟨br, orr, he⟩ := HR.out.addr (by omega)
            have hr := List.getElem?_eq_getElem hjl
            obtain ⟨r, hrr⟩ : ∃ r, r = rs[j] := ⟨_, rfl⟩
            rw [← hrr] at hr
            subst he
            have CR := Lib.hid fun (W : World) (hb : Below wr.heap.size wr W) => (show W.cell? ⟨br, orr + j, none⟩ = some (.int .i64 r) by simpa using ((HR.out.keep (nextB HBw.out hb)).range inC_len hr) 0 _ rfl)
            have CF := Lib.hid fun (W : World) (hb : Below wr.heap.size wr W) => ((F5.out.after HB.out).after hb).cell
            have cr := CR.out wr (Below.refl _ _)
            clear hr hrr hjl
            by_cases ra : r < 0
            · go_wp2_with (go_at_call 15; refine (knownLaw_c _).mono ?_; rintro e w15 ⟨rfl, hb⟩; have HK := Lib.hid (nextB HBw.out hb); clear hb)
              exact bodyPost_ret (results_tmp rfl _ _ _) rfl ⟨rfl, HK.out⟩
            · by_cases rb : r > 100
              · go_wp2_with (go_at_call 15; refine (knownLaw_c _).mono ?_; rintro e w15 ⟨rfl, hb⟩; have HK := Lib.hid (nextB HBw.out hb); clear hb)
                exact bodyPost_ret (results_tmp rfl _ _ _) rfl ⟨rfl, HK.out⟩
              · have m1 := mul_le (d := h - l) (s := r) (D := 60) (S := 100) (by omega) (by omega)
                have x1 := run_bd (l := l) (h := h) (r := r) (by omega) (by omega)
                have u1 : IntKind.i64.wrap (h - l) = h - l := wI (by omega) (by omega)
                have u2 : IntKind.i64.wrap ((h - l) * r) = (h - l) * r := wI (by omega) (by omega)
                have u3 : IntKind.i64.wrap (((h - l) * r).tdiv 100) = ((h - l) * r).tdiv 100 := wI (by omega) (by omega)
                have u4 : IntKind.i64.wrap (l + ((h - l) * r).tdiv 100) = l + ((h - l) * r).tdiv 100 := wI (by omega) (by omega)
                go_wp2
                refine wp_free 18 (by kernel_rfl) (by kernel_rfl) (by kernel_rfl) (by decide) ?_
                intro K hK
                iterate 18 (apply Obl.val (by decide) (by kernel_rfl); (intro w' hb; have := CR.out w' hb; have := CF.out w' hb; go_simp; try rfl))
                apply Obl.nil
                apply hK
                intro w9 hb
                simp only [Act.put, List.setIfInBounds_toArray, List.set_cons_zero, List.set_cons_succ, List.drop_succ_cons, List.drop_zero]
                clear hK K cr cF
                have HB9 := Lib.hid (nextB HB.out hb); have HK9 := Lib.hid (nextB HBw.out hb)
                have cF := CF.out w9 hb
                clear hb CR CF u1 u2 u3 u4 m1
                obtain ⟨u, hu⟩ : ∃ u, u = l + ((h - l) * r).tdiv 100 := ⟨_, rfl⟩
                have hub : l ≤ u ∧ u ≤ h := by omega
                rw [← hu]
                clear hu x1
                by_cases hjd : j = dn
                · subst hjd
                  obtain ⟨ta, tb⟩ := HT1.out (Nat.le_refl _)
                  have ee : ((j : Int) + 1) * h = (j : Int) * h + h := by rw [Int.add_mul, Int.one_mul]
                  by_cases hru : rest ≥ u
                  · go_wp2_with (go_at_call 15; refine (knownLaw_c _).mono ?_; rintro e w15 ⟨rfl, hb⟩; have HK := Lib.hid (nextB HK9.out hb); clear hb)
                    exact bodyPost_ret (results_tmp rfl _ _ _) rfl ⟨rfl, HK.out⟩
                  · have v1 : IntKind.i64.wrap (T + rest) = T + rest := wI (by omega) (by omega)
                    have HTn := Lib.hid (show 0 ≤ T + rest ∧ T + rest ≤ 60 * ((j + 1 : Nat) : Int) ∧ (j : Int) * l ≤ T + rest ∧ T + rest ≤ ((j : Int) + 1) * h - 1 by rw [ee]; push_cast; omega)
                    clear ta tb ee
                    go_wp2
                    go_roundw
                    case rel => exact ⟨j + 1, T + rest, by omega, by go_num, rfl, HB9.out, HTn.out.1, HTn.out.2.1, fun h => by omega, fun _ => HTn.out.2.2⟩
                    case measure => first | (simp [intOf]; done) | (simp [intOf]; omega)
                · have hjd2 : ((j : Int) == (dn : Int)) = false := by rw [beq_eq_false_iff_ne]; omega
                  obtain ⟨ta, tb⟩ := HT1.out (by omega)
                  have ee : ((j + 1 : Nat) : Int) * h = (j : Int) * h + h := by push_cast; rw [Int.add_mul, Int.one_mul]
                  have ef : ((j + 1 : Nat) : Int) * l = (j : Int) * l + l := by push_cast; rw [Int.add_mul, Int.one_mul]
                  have v1 : IntKind.i64.wrap (T + u) = T + u := wI (by omega) (by omega)
                  have HTn := Lib.hid (show 0 ≤ T + u ∧ T + u ≤ 60 * ((j + 1 : Nat) : Int) ∧ ((j + 1 : Nat) : Int) * l ≤ T + u ∧ T + u ≤ ((j + 1 : Nat) : Int) * h by rw [ee, ef]; push_cast; omega)
                  clear ta tb ee ef
                  go_wp2
                  go_roundw
                  case rel => exact ⟨j + 1, T + u, by omega, by go_num, rfl, HB9.out, HTn.out.1, HTn.out.2.1, fun _ => HTn.out.2.2, fun h => by omega⟩
                  case measure => first | (simp [intOf]; done) | (simp [intOf]; omega)
          · have hje : j = dn + 1 := by omega
            subst hje
            obtain ⟨T1, T2⟩ := HT2.out rfl
            have c7 := (J8.out.after HB.out).cell
            by_cases ra : T < x
            · go_wp2_with (go_at_call 15; refine (knownLaw_c _).mono ?_; rintro e w15 ⟨rfl, hb⟩; have HK := Lib.hid (nextB HBw.out hb); clear hb)
              exact bodyPost_ret (results_tmp rfl _ _ _) rfl ⟨rfl, HK.out⟩
            · by_cases rb : T > y
              · go_wp2_with (go_at_call 15; refine (knownLaw_c _).mono ?_; rintro e w15 ⟨rfl, hb⟩; have HK := Lib.hid (nextB HBw.out hb); clear hb)
                exact bodyPost_ret (results_tmp rfl _ _ _) rfl ⟨rfl, HK.out⟩
              · obtain ⟨rfl, g3, g4⟩ := G2.out T T1 T2 (by omega) (by omega)
                go_wp2_with (go_at_call 15; refine (knownLaw_c _).mono ?_; rintro e w15 ⟨rfl, hb⟩; have HK := Lib.hid (nextB HBw.out hb); clear hb)
                exact bodyPost_ret (results_tmp rfl _ _ _) rfl ⟨rfl, HK.out⟩
end Go.Proofs
namespace Go.Proofs
open Go.RowKit Go.Shelf Gas
attribute [local go_sem ↓] Go.wp_at_zero Go.wp_at_succ

set_option maxHeartbeats 4000000 in
set_option maxRecDepth 50000 in
theorem gasGauged_walk (A A2 A4 : Option Addr) (n c n2 c2 n4 c4 : Nat) (xs : List So) (ss rs : List Int) (dep d l h x y rest : Int) (w : World) (hs : SlOf So.cs 4 w A n xs) (hs2 : SlOf inC 1 w A2 n2 ss) (hs4 : SlOf inC 1 w A4 n4 rs) :
    Calls Tryz.prog 4 #[.slice A n c, .int .i64 dep, .slice A2 n2 c2, .agg #[.int .i64 d, .int .i64 l, .int .i64 h, .int .i64 x, .int .i64 y], .slice A4 n4 c4, .int .i64 rest] w fun e w' => e = .returned (.bool true) ∧ Below w.heap.size w w' := by
  have F := Lib.hid (Has.new w 26 #[.int .i64 d, .int .i64 l, .int .i64 h, .int .i64 x, .int .i64 y])
  have B0 := Lib.hid (newB (Below.refl w.heap.size w) (.cells #[.int .i64 d, .int .i64 l, .int .i64 h, .int .i64 x, .int .i64 y] 26))
  by_cases g1 : n ≤ 7
  · have q1 : ¬ n > 7 := by omega
    by_cases g2 : n2 = n
    · have HSd := Lib.hid fun (W : World) (hb : Below w.heap.size w W) => refSoundings_c A n c xs (by omega) W (hs.keep hb)
      have HCl := Lib.hid fun (W : World) => refClock_c d l h x y W
      have q2 : ((n2 : Int) != (n : Int)) = false := by simp [g2]
      cases g3 : soundsB n xs
      · rw [g3] at HSd
        clear hs hs2 hs4 g3
        go_enter Tryz.func4, Tryz.ntmps4
        go_wp2_with (first
          | (go_at_call 20; refine (HSd.out _ B0.out).mono ?_; rintro e w20 ⟨rfl, hb⟩; have B1 := Lib.hid (nextB B0.out hb); clear hb)
          | (go_at_call 15; refine (knownLaw_c _).mono ?_; rintro e w15 ⟨rfl, hb⟩; have HB := Lib.hid (nextB B1.out hb); clear hb))
        exact bodyPost_ret (results_tmp rfl _ _ _) rfl ⟨rfl, HB.out⟩
      · cases g4 : clkB d l h x y
        · rw [g3] at HSd; rw [g4] at HCl
          clear hs hs2 hs4 g3 g4
          go_enter Tryz.func4, Tryz.ntmps4
          go_wp2_with (first
            | (go_at_call 20; refine (HSd.out _ B0.out).mono ?_; rintro e w20 ⟨rfl, hb⟩; have F1 := Lib.hid (F.out.after hb); have B1 := Lib.hid (nextB B0.out hb); have c1 := F1.out.cell; clear hb)
            | (go_at_call 21; refine (HCl.out _).mono ?_; rintro e w21 ⟨rfl, hb⟩; have B2 := Lib.hid (nextB B1.out hb); clear hb)
            | (go_at_call 15; refine (knownLaw_c _).mono ?_; rintro e w15 ⟨rfl, hb⟩; have HB := Lib.hid (nextB B2.out hb); clear hb))
          exact bodyPost_ret (results_tmp rfl _ _ _) rfl ⟨rfl, HB.out⟩
        · have hd : 0 ≤ d ∧ d ≤ 20 := by
            have h4 := g4
            simp only [clkB, Bool.and_eq_true] at h4
            exact of_decide_eq_true h4.1
          obtain ⟨dn, rfl⟩ : ∃ dn : Nat, d = dn := ⟨d.toNat, by omega⟩
          by_cases hall : n4 = dn + 1 ∧ 0 ≤ dep ∧ dep ≤ 100 ∧ 0 ≤ rest
          · obtain ⟨h4, h5, h6, h7⟩ := hall
            have hne : xs ≠ [] := fun e0 => by
              subst e0
              have : n = 0 := hs.1.symm
              subst this
              exact absurd g3 (by decide)
            exact gauged_main A A2 A4 n c n2 c2 n4 c4 xs ss rs dep l h x y rest dn w hs hs2 hs4 g1 g2 g3 g4 h4 h5 h6 h7 _ _ _ _ _ _ (fun W hb => Depth_a A n c xs W (hs.keep hb)) (fun W => Minutes_a dn l h x y W) (dep_err g3 hne) (min_err g4)
              (fun hh => dep_in g3 h6 h5 hh hne) (fun t t1 t2 t3 t4 => min_in g4 t1 t2 t3 t4)
          · rw [g3] at HSd; rw [g4] at HCl
            have q5 : IntKind.i64.wrap ((dn : Int) + 1) = (dn : Int) + 1 := wI (by omega) (by omega)
            clear hs hs2 hs4 g3 g4
            by_cases h4 : n4 = dn + 1
            · have q4 : ((n4 : Int) != (dn : Int) + 1) = false := by rw [bne_eq_false_iff_eq]; omega
              by_cases h5 : dep < 0
              · go_enter Tryz.func4, Tryz.ntmps4
                go_wp2_with (first
                  | (go_at_call 20; refine (HSd.out _ B0.out).mono ?_; rintro e w20 ⟨rfl, hb⟩; have F1 := Lib.hid (F.out.after hb); have B1 := Lib.hid (nextB B0.out hb); have c1 := F1.out.cell; clear hb)
                  | (go_at_call 21; refine (HCl.out _).mono ?_; rintro e w21 ⟨rfl, hb⟩; clear c1; have c2 := (F1.out.after hb).cell; have B2 := Lib.hid (nextB B1.out hb); clear hb)
                  | (go_at_call 15; refine (knownLaw_c _).mono ?_; rintro e w15 ⟨rfl, hb⟩; have HB := Lib.hid (nextB B2.out hb); clear hb))
                exact bodyPost_ret (results_tmp rfl _ _ _) rfl ⟨rfl, HB.out⟩
              · by_cases h6 : dep > 100
                · go_enter Tryz.func4, Tryz.ntmps4
                  go_wp2_with (first
                    | (go_at_call 20; refine (HSd.out _ B0.out).mono ?_; rintro e w20 ⟨rfl, hb⟩; have F1 := Lib.hid (F.out.after hb); have B1 := Lib.hid (nextB B0.out hb); have c1 := F1.out.cell; clear hb)
                    | (go_at_call 21; refine (HCl.out _).mono ?_; rintro e w21 ⟨rfl, hb⟩; clear c1; have c2 := (F1.out.after hb).cell; have B2 := Lib.hid (nextB B1.out hb); clear hb)
                    | (go_at_call 15; refine (knownLaw_c _).mono ?_; rintro e w15 ⟨rfl, hb⟩; have HB := Lib.hid (nextB B2.out hb); clear hb))
                  exact bodyPost_ret (results_tmp rfl _ _ _) rfl ⟨rfl, HB.out⟩
                · have h7 : rest < 0 := by omega
                  go_enter Tryz.func4, Tryz.ntmps4
                  go_wp2_with (first
                    | (go_at_call 20; refine (HSd.out _ B0.out).mono ?_; rintro e w20 ⟨rfl, hb⟩; have F1 := Lib.hid (F.out.after hb); have B1 := Lib.hid (nextB B0.out hb); have c1 := F1.out.cell; clear hb)
                    | (go_at_call 21; refine (HCl.out _).mono ?_; rintro e w21 ⟨rfl, hb⟩; clear c1; have c2 := (F1.out.after hb).cell; have B2 := Lib.hid (nextB B1.out hb); clear hb)
                    | (go_at_call 15; refine (knownLaw_c _).mono ?_; rintro e w15 ⟨rfl, hb⟩; have HB := Lib.hid (nextB B2.out hb); clear hb))
                  exact bodyPost_ret (results_tmp rfl _ _ _) rfl ⟨rfl, HB.out⟩
            · have q4 : ((n4 : Int) != (dn : Int) + 1) = true := by rw [bne_iff_ne]; omega
              go_enter Tryz.func4, Tryz.ntmps4
              go_wp2_with (first
                | (go_at_call 20; refine (HSd.out _ B0.out).mono ?_; rintro e w20 ⟨rfl, hb⟩; have F1 := Lib.hid (F.out.after hb); have B1 := Lib.hid (nextB B0.out hb); have c1 := F1.out.cell; clear hb)
                | (go_at_call 21; refine (HCl.out _).mono ?_; rintro e w21 ⟨rfl, hb⟩; clear c1; have c2 := (F1.out.after hb).cell; have B2 := Lib.hid (nextB B1.out hb); clear hb)
                | (go_at_call 15; refine (knownLaw_c _).mono ?_; rintro e w15 ⟨rfl, hb⟩; have HB := Lib.hid (nextB B2.out hb); clear hb))
              exact bodyPost_ret (results_tmp rfl _ _ _) rfl ⟨rfl, HB.out⟩
    · have q2 : ((n2 : Int) != (n : Int)) = true := by rw [bne_iff_ne]; omega
      go_enter Tryz.func4, Tryz.ntmps4
      go_wp2_with (go_at_call 15; refine (knownLaw_c _).mono ?_; rintro e w15 ⟨rfl, hb⟩; have HB := Lib.hid (nextB B0.out hb); clear hb)
      exact bodyPost_ret (results_tmp rfl _ _ _) rfl ⟨rfl, HB.out⟩
  · have q1 : n > 7 := by omega
    go_enter Tryz.func4, Tryz.ntmps4
    go_wp2_with (go_at_call 15; refine (knownLaw_c _).mono ?_; rintro e w15 ⟨rfl, hb⟩; have HB := Lib.hid (nextB B0.out hb); clear hb)
    exact bodyPost_ret (results_tmp rfl _ _ _) rfl ⟨rfl, HB.out⟩
end Go.Proofs
namespace Go.Proofs.YtahochgbkhpefaaGreatDoor.gasGauged
open Go.ChangeShapes Go.WideShapes Go.ChangeAt Go.RowKit Go.Proofs

theorem own : ownKnob Tryz.prog.godebug = none := by kernel_rfl
theorem laidOut : laidOutB Tryz.prog = true := by kernel_rfl
theorem door_met (os : Os) (args : Array Value) : laidMetH Tryz.prog Rows.gasGaugedRow.laid ((World.doorLaid Tryz.prog 400 os).forCall (fun _ _ => 0) ⟨#[], args, []⟩).memory :=
  laidMetH_of_parts3 (fuel := 8) (laidMet_of_run' 8 (by kernel_rfl) (by kernel_rfl)) (by kernel_rfl) (by kernel_rfl)

set_option maxRecDepth 100000 in
theorem lifted (os : Os) (started : os.Started) (H : Type) (enc : TypeId × Value → H) :
    ReturnsInHanded {} Tryz.checked os 4 .any (fun w args => (Rows.gasGaugedSpec.pre enc Tryz.prog Tryz.f4 [] false w args ∧ laidMetH Tryz.prog Rows.gasGaugedRow.laid w) ∧ sizedMet enc Tryz.prog Tryz.f4 (OpenSpec.ofChange Rows.gasGaugedSpec) false w args)
      (Rows.gasGaugedSpec.post enc Tryz.prog Tryz.f4 false true false false) := by
  refine returnsInHanded_of_change_and (C := Tryz.checked) (X := fun w _ => laidMetH Tryz.prog Rows.gasGaugedRow.laid w) (fun _ _ _ hh h => h.of_heap hh) own started (by kernel_rfl) Tryz.func4
    (ChangeSpec.witness_shaped (enc := enc) (C := Tryz.checked) (os := os) (X := fun w _ => laidMetH Tryz.prog Rows.gasGaugedRow.laid w) false (World.doorLaid Tryz.prog 400 os) #[.slice none 0 0, .int .i64 0, .slice none 0 0, .agg #[.int .i64 0, .int .i64 0, .int .i64 0, .int .i64 0, .int .i64 0], .slice none 0 0, .int .i64 0] 8 rfl (World.shaped_of_RefB (by kernel_rfl) (by kernel_rfl)) (by kernel_rfl) (by kernel_rfl) (by kernel_rfl) (door_met os _)) ?_
  intro W base args ds gs before hval0 hW _ _ hL _
  have hval : ∀ (j : Nat) t v, Tryz.f4.params[j]? = some t → args[j]? = some v → Value.okWide Tryz.prog W .any base t v := hval0
  have hW' := hW
  obtain ⟨p, q, hA0, hV, rfl, hfz, hnd⟩ := hW
  have hA : DataW.TrodAll enc Tryz.prog W 0 (fun _ => true) true Tryz.f4.params.toList args.toList ds p := hA0
  rw [Tryz.params4] at hA hval
  obtain ⟨v0, vs0, d0, ds0, p0, q0, hargs, rfl, rfl, h0, r0⟩ := trodAll_cons hA
  obtain ⟨v1, vs1, d1, ds1, p1, q1, rfl, rfl, rfl, h1, r1⟩ := trodAll_cons r0
  obtain ⟨v2, vs2, d2, ds2, p2, q2, rfl, rfl, rfl, h2, r2⟩ := trodAll_cons r1
  obtain ⟨v3, vs3, d3, ds3, p3, q3, rfl, rfl, rfl, h3, r3⟩ := trodAll_cons r2
  obtain ⟨v4, vs4, d4, ds4, p4, q4, rfl, rfl, rfl, h4, r4⟩ := trodAll_cons r3
  obtain ⟨v5, vs5, d5, ds5, p5, q5, rfl, rfl, rfl, h5, r5⟩ := trodAll_cons r4
  obtain ⟨rfl, rfl, rfl⟩ := trodAll_nil r5
  obtain rfl : args = #[v0, v1, v2, v3, v4, v5] := by cases args; simp_all
  obtain ⟨rfl, rfl⟩ := trodVars_none hV
  have k0 := h0
  have lt0 : ∀ x ∈ p0, x.block < W.heap.size := by obtain ⟨m, hm⟩ := k0; exact DataW.trod_lt m _ _ _ hm
  have u0 := hval 0 22 v0 rfl rfl
  obtain ⟨A0, n0, c0, l0, rfl, hd0, hc0, hm0, hA0⟩ := arg_soundings u0 h0
  have k1 := h1
  have lt1 : ∀ x ∈ p1, x.block < W.heap.size := by obtain ⟨m, hm⟩ := k1; exact DataW.trod_lt m _ _ _ hm
  have u1 := hval 1 3 v1 rfl rfl
  obtain ⟨a1, rfl, w1⟩ := arg_int u1 h1
  have k2 := h2
  have lt2 : ∀ x ∈ p2, x.block < W.heap.size := by obtain ⟨m, hm⟩ := k2; exact DataW.trod_lt m _ _ _ hm
  have u2 := hval 2 37 v2 rfl rfl
  obtain ⟨A2, n2, c2, l2, rfl, hd2, hc2, hm2, hA2⟩ := arg_ints u2 h2
  have k3 := h3
  have lt3 : ∀ x ∈ p3, x.block < W.heap.size := by obtain ⟨m, hm⟩ := k3; exact DataW.trod_lt m _ _ _ hm
  have u3 := hval 3 26 v3 rfl rfl
  obtain ⟨ct, cgl, cgh, cwl, cwh, rfl, w3⟩ := arg_clock u3 h3
  have k4 := h4
  have lt4 : ∀ x ∈ p4, x.block < W.heap.size := by obtain ⟨m, hm⟩ := k4; exact DataW.trod_lt m _ _ _ hm
  have u4 := hval 4 37 v4 rfl rfl
  obtain ⟨A4, n4, c4, l4, rfl, hd4, hc4, hm4, hA4⟩ := arg_ints u4 h4
  have k5 := h5
  have lt5 : ∀ x ∈ p5, x.block < W.heap.size := by obtain ⟨m, hm⟩ := k5; exact DataW.trod_lt m _ _ _ hm
  have u5 := hval 5 3 v5 rfl rfl
  obtain ⟨a5, rfl, w5⟩ := arg_int u5 h5
  clear hA0 hval0
  simp only [List.append_nil] at hW'
  refine (gasGauged_walk A0 A2 A4 n0 c0 n2 c2 n4 c4 l0 l2 l4 a1 ct cgl cgh cwl cwh a5 W hd0 hd2 hd4).mono fun e W' ⟨he, bel⟩ => ?_
  subst he
  exact ⟨_, rfl, _, _, _, [], _, [], hW', trodAll_mk1 (shut_bool Tryz.underlying4 _), (trodAll_cons_mk (Below.trod laidOut (by kernel_rfl) (of_decide_eq_true (by kernel_rfl)) k0 bel lt0) (trodAll_cons_mk (Below.trod laidOut (by kernel_rfl) (of_decide_eq_true (by kernel_rfl)) k1 bel lt1) (trodAll_cons_mk (Below.trod laidOut (by kernel_rfl) (of_decide_eq_true (by kernel_rfl)) k2 bel lt2) (trodAll_cons_mk (Below.trod laidOut (by kernel_rfl) (of_decide_eq_true (by kernel_rfl)) k3 bel lt3) (trodAll_cons_mk (Below.trod laidOut (by kernel_rfl) (of_decide_eq_true (by kernel_rfl)) k4 bel lt4) (trodAll_cons_mk (Below.trod laidOut (by kernel_rfl) (of_decide_eq_true (by kernel_rfl)) k5 bel lt5) trodAll_mk0)))))), rfl, bel.frame _, fun h => by cases h⟩

theorem row_holds : Rows.GasGaugedSaid :=
  OpenClaim.holds_of_wide 4 Tryz.f4 rfl rfl rfl rfl rfl rfl rfl ⟨rfl, rfl, rfl, rfl, rfl⟩ rfl rfl rfl rfl rfl (by kernel_rfl) Tryz.func4 (by kernel_rfl)
    (of_decide_eq_true (by kernel_rfl)) (by unfold Func.isWrapper; first | (rw [if_pos (by decide +kernel)]; kernel_rfl) | (rw [if_neg (by decide +kernel)]; exact ⟨rfl, rfl⟩))
    (fun os started H enc _ => lifted os started H enc)

theorem gasGauged_holds : Rows.GasGaugedCardSaid :=
  Claim7.holds_tied_plain_at .later [] [.data, .data, .data] true (true, "7950fa0371113510b48b1005210e74e0fffa460a27dcdf5d658d223fe2172657") true
    row_holds (fun _ h => by cases h) (by kernel_rfl) (fun _ h => by cases h) gasGauged_row_tie rfl ⟨rfl, rfl⟩ (by kernel_rfl) rfl
    (fun f fn hf hfn => by
      obtain rfl : f = 4 := Option.some.inj ((show Tryz.prog.funcNamed "bathyal/bathyallaw02.GasGauged" = some 4 by kernel_rfl).symm.trans hf) |>.symm
      obtain rfl : fn = Tryz.f4 := (Option.some.inj (Tryz.func4.symm.trans hfn)).symm
      exact ⟨by kernel_rfl, fun j t ht => by
        rw [Tryz.params4] at ht
        have hm : t ∈ [22, 3, 37, 26, 37, 3] := by simpa using Array.mem_of_getElem? ht
        have hall : ([22, 3, 37, 26, 37, 3].all fun u => !Tryz.prog.wantsStandIn u) = true := by kernel_rfl
        exact (show Tryz.prog.wantsStandIn t = false by simpa using List.all_eq_true.1 hall t hm)⟩)
    (by kernel_rfl)
#print axioms gasGauged_holds
end Go.Proofs.YtahochgbkhpefaaGreatDoor.gasGauged
