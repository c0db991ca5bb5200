/-
  Contracts of the specification's Stop, and what its rounds keep, hold where table, man and dive are as defined.
-/
import Derived.Test.YtahochgbkhpefabGreatDoorP13
import Derived.Test.YtahochgbkhpefabGreatDoorP14
namespace Go.Proofs
open Go.RowKit Go.Shelf Gas
attribute [local go_sem ↓] Go.wp_at_zero Go.wp_at_succ

theorem bodiesL_len (rs : List Pr) (h h' : Nat → Int → Pr) : (bodiesL rs h).length = (bodiesL rs h').length := by
  have : ∀ k, (bodiesTo rs h k).length = (bodiesTo rs h' k).length := by
    intro k
    induction k with
    | zero => rfl
    | succ k ih => simp only [bodiesTo, List.length_append, bodiesK_len, ih]
  exact this _

theorem stayS_sok {d n : Int} (hd : 0 ≤ d ∧ d ≤ 40) (hn : 0 ≤ n ∧ n ≤ 200) : SOk (stayS d d n) := ⟨by simp only [stayS]; omega, by simp only [stayS]; omega, by simp only [stayS]; omega⟩
theorem okS_over {ps rs : List Pr} {h : Nat → Int → Pr} (hr : rs.all rateB = true) (hpl : ps.length = rs.length) (d n : Int) : okS ps rs h d n = (decide (overL ps d (bodiesL rs h) < 0) && decide (overL ps 0 (bodiesL rs (stayH h (stayS d d n))) < 0)) := by
  unfold okS
  rw [over_enter hr hpl, over_enter hr hpl]
/-- What bodies in memory are for. -/
structure Bds (t : Tm) (w : World) (m : Nat) : Prop where
  over : ∀ (h : Nat → Int → Pr), FolOk t h → ∀ (d : Int), 0 ≤ d ∧ d ≤ 100 → ∀ (A : Option Addr) (c : Nat) (W : World), Below w.heap.size w W → SlOf Bd.cs 4 W A m (bodiesL t.rs h) →
    Calls Tryz.prog 104 #[t.tab, .slice A m c, .int .i64 d] W fun e w' => e = .returned (.int .i64 (overL t.ps d (bodiesL t.rs h))) ∧ Below W.heap.size W w'
  after : ∀ (h : Nat → Int → Pr), FolOk t h → ∀ (s : St), SOk s → ∀ (A : Option Addr) (c : Nat) (W : World), SlOf Bd.cs 4 W A m (bodiesL t.rs h) →
    Calls Tryz.prog 105 #[.slice A m c, s.val] W fun e w' => ∃ v, e = .returned v ∧ RSl m (bodiesL t.rs (stayH h s)) v w' ∧ Below W.heap.size W w'
theorem Bds.mk' (t : Tm) (ht : t.Ok) (htp : t.rs.length ≤ 100) (w : World) (hi : t.In w) {m : Nat} (hm : (bodiesL t.rs h0).length = m) : Bds t w m := by
  have hrl : t.rs.length = t.pn := by rw [hi.rs.1]; exact ht.np
  have hpl : t.ps.length = t.rs.length := by rw [hi.ps.1, hrl]
  have hbl := bodiesTo_len ht.rates h0 t.rs.length (Nat.le_refl _)
  have hm2 : m ≤ 1300 := by rw [← hm]; unfold bodiesL; omega
  refine ⟨fun h ho d hd A c W hb hs => ?_, fun h ho s hs A c W hsl => ?_⟩
  · exact over_c t.pA t.sA A t.pn t.pc t.sn t.sc m c t.ps (bodiesL t.rs h) d hd (by omega) ht.small.p ht.parts (by rw [← hrl, ← hpl]; exact bodiesL_ok ho hpl) W (hi.ps.keep hb) hs
  · refine (refAfter_s A m c (bodiesL t.rs h) s hs t.ps.length (by omega) (bodiesL_ok ho hpl) W hsl).mono fun e w' ⟨v, h1, h2, h3⟩ => ⟨v, h1, ?_, h3⟩
    rw [map_bodiesL] at h2
    obtain ⟨A', c', e1, hs', _⟩ := owns_sl rfl h2
    have e2 : (bodiesL t.rs (stayH h s)).length = m := (bodiesL_len t.rs _ h0).trans hm
    rw [e2] at e1 hs'
    exact ⟨A', c', e1, hs'⟩

end Go.Proofs
namespace Go.Proofs
open Go.RowKit Go.Shelf Gas
attribute [local go_sem ↓] Go.wp_at_zero Go.wp_at_succ

theorem folS_snoc (ps rs : List Pr) (s : St) : ∀ (l : List St) (a : FS), folS ps rs a (l ++ [s]) = (stayH (folS ps rs a l).1 s, enterB ps rs (folS ps rs a l).1 s.dl (folS ps rs a l).2)
  | [], a => rfl
  | x :: l, a => by
    show folS ps rs _ (l ++ [s]) = _
    rw [folS_snoc ps rs s l]; rfl
def RTm (n : Nat) (ys : List Bd) (v : Value) (w : World) : Prop := ∃ A c m p, v = .tuple #[.slice A n c, .int .i64 m, .int .i64 p] ∧ SlOf Bd.cs 4 w A n ys
theorem RTm.stable {n : Nat} {ys : List Bd} : ∀ v w w', RTm n ys v w → Below w.heap.size w w' → RTm n ys v w' := fun _ _ _ ⟨A, c, m, p, e, h⟩ hb => ⟨A, c, m, p, e, h.keep hb⟩
def RSt (n : Nat) (ys : List St) (v : Value) (w : World) : Prop := ∃ A c, v = .slice A n c ∧ SlOf St.cs 4 w A n ys
theorem RSt.stable {n : Nat} {ys : List St} : ∀ v w w', RSt n ys v w → Below w.heap.size w w' → RSt n ys v w' := fun _ _ _ ⟨A, c, e, h⟩ hb => ⟨A, c, e, h.keep hb⟩
def IsI (v : Value) (_ : World) : Prop := ∃ m : Int, v = .int .i64 m
theorem IsI.stable : ∀ v w w', IsI v w → Below w.heap.size w w' → IsI v w' := fun _ _ _ h _ => h

/-- A stop and whether there is one, as a result. -/
def optS (o : Option Pr) : Value := .tuple #[.agg #[.int .i64 (o.getD (0, 0)).1, .int .i64 (o.getD (0, 0)).2], .bool o.isSome]
theorem firstFrom_step (p : Int → Bool) (n : Nat) (d : Int) : firstFrom p (n + 1) d = if p d then some d else firstFrom p n (d + 1) := rfl
theorem searchD_step (p : Int → Int → Bool) (j k : Nat) (d : Int) : searchD p j (k + 1) d = match firstFrom (p d) j 1 with | some m => some (d, m) | none => searchD p j k (d + 1) := rfl

end Go.Proofs
namespace Go.Proofs
open Go.RowKit Go.Shelf Gas
attribute [local go_sem ↓] Go.wp_at_zero Go.wp_at_succ

theorem searchN_step (p : Int → Int → Bool) (ds : List Int) (k : Nat) (m : Int) : searchN p ds (k + 1) m = match ds.find? (fun d => p d m) with | some d => some (d, m) | none => searchN p ds k (m + 1) := rfl
theorem find_drop {p : Int → Bool} {ds : List Int} {i : Nat} (h : i < ds.length) : (ds.drop i).find? p = if p ds[i] then some ds[i] else (ds.drop (i + 1)).find? p := by
  rw [List.drop_eq_getElem_cons h, List.find?_cons]
  cases p ds[i] <;> rfl
/-- What is kept in the boxes of a search. -/
structure Bz (w : World) (t : Tm) (W : World) : Prop where
  below : Below w.heap.size w W
  tab : Has W w.heap.size 25 #[.slice t.pA t.pn t.pc, .slice t.sA t.sn t.sc]
  man : Has W (w.heap.size + 1) 28 #[.slice t.rA t.rn t.rc]
  res : Has W (w.heap.size + 1 + 1) 31 #[.int .i64 0, .int .i64 0]
theorem Bz.keep {w W W' : World} {t : Tm} (h : Bz w t W) (hb : Below W.heap.size W W') : Bz w t W' := ⟨nextB h.below hb, h.tab.after hb, h.man.after hb, h.res.after hb⟩
theorem Bz.start (w : World) (t : Tm) : Bz w t (((w.alloc (.cells #[.slice t.pA t.pn t.pc, .slice t.sA t.sn t.sc] 25)).alloc (.cells #[.slice t.rA t.rn t.rc] 28)).alloc (.cells #[.int .i64 0, .int .i64 0] 31)) :=
  ⟨newB (newB (newB (Below.refl _ _) _) _) _, ((Has.new w 25 _).alloc _).alloc _, (Has.new' _ 28 _ (by simp)).alloc _, Has.new' _ 31 _ (by simp)⟩

set_option maxHeartbeats 2000000 in
set_option maxRecDepth 50000 in
theorem refStop_c (t : Tm) (ht : t.Ok) (hss : SsOk t) (hrn : t.rs.length ≤ 100) (hsn : t.sn ≤ 1000) (A : Option Addr) (n c : Nat) (dive : List St) (hn : n ≤ 100000) (hds : ∀ s ∈ dive, SOk s) (w : World) (hi : t.In w) (hd : SlOf St.cs 4 w A n dive) :
    Calls Tryz.prog 68 #[t.tab, t.man, .slice A n c] w fun e w' => e = .returned (optS (refStR t.ps t.rs t.ss (folS t.ps t.rs (h0, true) dive))) ∧ Below w.heap.size w w' := by
  have hpl : t.ps.length = t.rs.length := by rw [hi.ps.1, hi.rs.1]; exact ht.np.symm
  have hpn : t.ps.length = t.pn := hi.ps.1
  have hbl := bodiesTo_len ht.rates h0 t.rs.length (Nat.le_refl _)
  have hbl2 : (bodiesL t.rs h0).length ≤ 1300 := by unfold bodiesL; omega
  obtain ⟨m, hm⟩ : ∃ m, (bodiesL t.rs h0).length = m := ⟨_, rfl⟩
  obtain ⟨h1, k1, ha⟩ : ∃ h1 k1, folS t.ps t.rs (h0, true) dive = (h1, k1) := ⟨_, _, rfl⟩
  have ho : FolOk t h1 := by
    have := FolOk.folS (t := t) dive (h0, true) (h0_ok ht) hds
    rw [ha] at this; exact this
  have hf := folR_fol ht.rates hpl dive h0 true (-1) (-1) 0 (by omega) rfl
  rw [ha] at hf
  obtain ⟨ys, mo, pa, hr⟩ : ∃ ys mo pa, folR t.ps (bodiesL t.rs h0) (-1) (-1) 0 dive = (ys, mo, pa) := ⟨_, _, _, rfl⟩
  rw [hr] at hf
  simp only at hf
  obtain ⟨hy, hk1⟩ := hf
  subst hy
  have HBe := Lib.hid fun (W : World) (hb : Below w.heap.size w W) => (refBegin_c t.rA t.rn t.rc t.rs ht.small.r ht.rates W (hi.rs.keep hb)).mono fun e x (⟨v, h1, h2, h3⟩ : OwnsBd W (bodiesL t.rs h0) e x) => (show ∃ v, e = Ending.returned v ∧ RSl m (bodiesL t.rs h0) v x ∧ Below W.heap.size W x from ⟨v, h1, (by obtain ⟨A', c', e1, hs, _⟩ := owns_sl rfl h2; rw [hm] at e1 hs; exact ⟨A', c', e1, hs⟩), h3⟩)
  have HFo := Lib.hid fun (W : World) (hb : Below w.heap.size w W) (A' : Option Addr) (c' : Nat) (hsl : SlOf Bd.cs 4 W A' m (bodiesL t.rs h0)) =>
    (refFollow_c t.pA t.sA A' A t.pn t.pc t.sn t.sc m c' n c t.ps (bodiesL t.rs h0) dive (by omega) (by omega) ht.small.p ht.parts (by rw [← hpn]; exact bodiesL_ok (h0_ok ht) hpl) hds W (hi.ps.keep hb) hsl (hd.keep hb)).mono fun e x (⟨A2, c2, h1', h2, h3⟩ : IsFolR W _ e x) => (show ∃ v, e = Ending.returned v ∧ RTu m (bodiesL t.rs h1) mo pa v x ∧ Below W.heap.size W x from by
      rw [hr] at h1' h2
      simp only at h1' h2
      rw [(bodiesL_len t.rs h1 h0).trans hm] at h1' h2
      exact ⟨_, h1', ⟨A2, c2, rfl, h2⟩, h3⟩)
  have HB := Lib.hid (Bds.mk' t ht hrn w hi hm)
  have HO := Lib.hid ho
  have HSs := Lib.hid hss
  have HJ := Lib.hid fun (x : Int) (W : World) => refJust_c x W
  have HSl := Lib.hid hi.ss
  have hsl := hi.ss.1
  have E0 := Lib.hid (Bz.start w t)
  have HOk := Lib.hid fun (d n : Int) => okS_over (h := h1) ht.rates hpl d n
  have HOv0 := Lib.hid fun (A' : Option Addr) (c' : Nat) (W : World) (hb : Below w.heap.size w W) (hs : SlOf Bd.cs 4 W A' m (bodiesL t.rs h1)) => HB.out.over h1 ho 0 (by omega) A' c' W hb hs
  have hen := over_enter (h := h1) (d := 0) ht.rates hpl
  rw [ha]
  unfold refStR
  rw [hen, hk1]
  generalize overL t.ps 0 (bodiesL t.rs h1) = x0 at *
  generalize hP : okS t.ps t.rs h1 = P at *
  generalize hSO : (if (decide (mo < 0)) = true then (if decide (x0 < 0) = true then some (0, 0) else searchN P t.ss 30 1) else none) = so
  have HSO := Lib.hid hSO
  clear hSO hP hen ha hr hk1 hi hd hpl hpn hbl hbl2 hm hds ht ho hss
  by_cases hmo : mo < 0
  · have hng : ¬ (mo ≥ 0) := by omega
    have HSO1 := HSO.out
    rw [decide_eq_true hmo, if_pos rfl] at HSO1
    by_cases hx0 : x0 < 0
    · rw [decide_eq_true hx0, if_pos rfl] at HSO1
      subst HSO1
      clear HSO HB HOk HSs HSl hsl HJ hsn HO
      obtain ⟨pA, sA, rA, pn, pc, sn, sc, rn, rc, ps, ss, rs⟩ := t
      simp only [Tm.tab, Tm.man] at *
      generalize bodiesL rs h0 = bs at *
      go_enter Tryz.func68, Tryz.ntmps68
      go_wp2
      generalize ((w.alloc (.cells #[.slice pA pn pc, .slice sA sn sc] 25)).alloc (.cells #[.slice rA rn rc] 28)).alloc (.cells #[.int .i64 0, .int .i64 0] 31) = W1 at *
      apply wp_loose 12 (.v (.agg #[.slice pA pn pc, .slice sA sn sc]) :: .v (.agg #[.slice rA rn rc]) :: .r (RSl m bs) :: .v (.slice A n c) :: .r (RTu m (bodiesL rs h1) mo pa) :: .r (RTu m (bodiesL rs h1) mo pa) :: .r (RSl m (bodiesL rs h1)) :: .v (.int .i64 mo) :: .v (.int .i64 pa) :: .r (RSl m (bodiesL rs h1)) :: .v (.int .i64 mo) :: .v (.int .i64 pa) :: []) (by kernel_rfl) (by kernel_rfl) (by kernel_rfl) (by decide) rfl
      intro K hK
      refine OblS.row rfl 25 (.tmp 3) rfl w.heap.size (by kernel_rfl) 25 _ _ E0.out.tab Tryz.underlying25 rfl (by kernel_rfl) ?_
      refine OblS.row rfl 28 (.tmp 4) rfl (w.heap.size + 1) (by kernel_rfl) 28 _ _ E0.out.man Tryz.underlying28 rfl (by kernel_rfl) ?_
      refine OblS.callR 103 RSl.stable (by kernel_rfl) (fun w' hb _ => ⟨#[.agg #[.slice rA rn rc]], (by kernel_rfl), HBe.out w' (nextB E0.out.below hb)⟩) ?_
      intro v2
      refine OblS.val (by kernel_rfl) (fun w' _ _ => (by kernel_rfl)) ?_
      refine OblS.callR 102 RTu.stable (by kernel_rfl) (fun w' hb hH => ?_) ?_
      · obtain ⟨A', c', rfl, hsl⟩ := hH _ (List.mem_cons_self ..) (by kernel_rfl)
        exact ⟨#[.agg #[.slice pA pn pc, .slice sA sn sc], .slice A' m c', .slice A n c], (by kernel_rfl), HFo.out w' (nextB E0.out.below hb) A' c' hsl⟩
      intro v4
      refine OblS.run RTu.stable (by kernel_rfl) (fun w' hb hH => ?_) ?_
      · obtain ⟨A', c', rfl, hsl⟩ := hH _ (List.mem_cons_self ..) (by kernel_rfl)
        exact ⟨_, w', (by kernel_rfl), ⟨A', c', rfl, hsl⟩, Below.refl _ _⟩
      intro v5
      refine OblS.run RSl.stable (by kernel_rfl) (fun w' hb hH => ?_) ?_
      · obtain ⟨A', c', rfl, hsl⟩ := hH _ (List.mem_cons_self ..) (by kernel_rfl)
        exact ⟨_, w', (by kernel_rfl), ⟨A', c', rfl, hsl⟩, Below.refl _ _⟩
      intro v6
      refine OblS.val (by kernel_rfl) (fun w' hb hH => ?_) ?_
      · obtain ⟨A', c', rfl, hsl⟩ := hH _ (List.mem_cons_of_mem _ (List.mem_cons_self ..)) (by kernel_rfl)
        kernel_rfl
      refine OblS.val (by kernel_rfl) (fun w' hb hH => ?_) ?_
      · obtain ⟨A', c', rfl, hsl⟩ := hH _ (List.mem_cons_of_mem _ (List.mem_cons_self ..)) (by kernel_rfl)
        kernel_rfl
      refine OblS.run RSl.stable (by kernel_rfl) (fun w' hb hH => ?_) ?_
      · obtain ⟨A', c', rfl, hsl⟩ := hH _ (List.mem_cons_self ..) (by kernel_rfl)
        exact ⟨_, w', (by kernel_rfl), ⟨A', c', rfl, hsl⟩, Below.refl _ _⟩
      intro v9
      refine OblS.val (by kernel_rfl) (fun w' _ _ => (by kernel_rfl)) ?_
      refine OblS.val (by kernel_rfl) (fun w' _ _ => (by kernel_rfl)) ?_
      apply OblS.nil
      apply hK
      intro w5 hb hH
      obtain ⟨A9, c9, rfl, hsl9⟩ := hH _ (List.mem_cons_self ..)
      have HS9 := Lib.hid hsl9; have E5 := Lib.hid (E0.out.keep hb)
      clear hH hK K hsl9 hb HBe HFo E0
      simp only [Act.put, List.setIfInBounds_toArray, List.set_cons_zero, List.set_cons_succ, List.drop_succ_cons, List.drop_zero]
      go_wp2_with (first
        | (refine wpList_load_row rfl 25 _ rfl w.heap.size rfl 25 _ (0, 0) _ E5.out.tab Tryz.underlying25 rfl (by kernel_rfl) ?_)
        | (go_at_call 104; refine (HOv0.out A9 c9 _ E5.out.below HS9.out).mono ?_; rintro e w6 ⟨rfl, hb6⟩; have E6 := Lib.hid (E5.out.keep hb6))
        | (refine wpList_store_all rfl 31 _ _ rfl (w.heap.size + 1 + 1) rfl _ rfl 31 _ E6.out.res (by kernel_rfl) rfl (by simp [Value.oneCell']) ?_))
      refine bodyPost_ret (results_row_tmp Tryz.results68 _ _ (w.heap.size + 1 + 1) 31 _ (0, 0) _ rfl (E6.out.res.setRow _) Tryz.underlying31 rfl (by kernel_rfl)) rfl ⟨rfl, rowB E6.out.below (by omega) _⟩
    · rw [decide_eq_false hx0, if_neg (by simp)] at HSO1
      have HS1 := Lib.hid HSO1
      clear HSO HSO1
      obtain ⟨pA, sA, rA, pn, pc, sn, sc, rn, rc, ps, ss, rs⟩ := t
      simp only [Tm.tab, Tm.man] at *
      generalize bodiesL rs h0 = bs at *
      go_enter Tryz.func68, Tryz.ntmps68
      go_wp2
      generalize ((w.alloc (.cells #[.slice pA pn pc, .slice sA sn sc] 25)).alloc (.cells #[.slice rA rn rc] 28)).alloc (.cells #[.int .i64 0, .int .i64 0] 31) = W1 at *
      apply wp_loose 12 (.v (.agg #[.slice pA pn pc, .slice sA sn sc]) :: .v (.agg #[.slice rA rn rc]) :: .r (RSl m bs) :: .v (.slice A n c) :: .r (RTu m (bodiesL rs h1) mo pa) :: .r (RTu m (bodiesL rs h1) mo pa) :: .r (RSl m (bodiesL rs h1)) :: .v (.int .i64 mo) :: .v (.int .i64 pa) :: .r (RSl m (bodiesL rs h1)) :: .v (.int .i64 mo) :: .v (.int .i64 pa) :: []) (by kernel_rfl) (by kernel_rfl) (by kernel_rfl) (by decide) rfl
      intro K hK
      refine OblS.row rfl 25 (.tmp 3) rfl w.heap.size (by kernel_rfl) 25 _ _ E0.out.tab Tryz.underlying25 rfl (by kernel_rfl) ?_
      refine OblS.row rfl 28 (.tmp 4) rfl (w.heap.size + 1) (by kernel_rfl) 28 _ _ E0.out.man Tryz.underlying28 rfl (by kernel_rfl) ?_
      refine OblS.callR 103 RSl.stable (by kernel_rfl) (fun w' hb _ => ⟨#[.agg #[.slice rA rn rc]], (by kernel_rfl), HBe.out w' (nextB E0.out.below hb)⟩) ?_
      intro v2
      refine OblS.val (by kernel_rfl) (fun w' _ _ => (by kernel_rfl)) ?_
      refine OblS.callR 102 RTu.stable (by kernel_rfl) (fun w' hb hH => ?_) ?_
      · obtain ⟨A', c', rfl, hsl⟩ := hH _ (List.mem_cons_self ..) (by kernel_rfl)
        exact ⟨#[.agg #[.slice pA pn pc, .slice sA sn sc], .slice A' m c', .slice A n c], (by kernel_rfl), HFo.out w' (nextB E0.out.below hb) A' c' hsl⟩
      intro v4
      refine OblS.run RTu.stable (by kernel_rfl) (fun w' hb hH => ?_) ?_
      · obtain ⟨A', c', rfl, hsl⟩ := hH _ (List.mem_cons_self ..) (by kernel_rfl)
        exact ⟨_, w', (by kernel_rfl), ⟨A', c', rfl, hsl⟩, Below.refl _ _⟩
      intro v5
      refine OblS.run RSl.stable (by kernel_rfl) (fun w' hb hH => ?_) ?_
      · obtain ⟨A', c', rfl, hsl⟩ := hH _ (List.mem_cons_self ..) (by kernel_rfl)
        exact ⟨_, w', (by kernel_rfl), ⟨A', c', rfl, hsl⟩, Below.refl _ _⟩
      intro v6
      refine OblS.val (by kernel_rfl) (fun w' hb hH => ?_) ?_
      · obtain ⟨A', c', rfl, hsl⟩ := hH _ (List.mem_cons_of_mem _ (List.mem_cons_self ..)) (by kernel_rfl)
        kernel_rfl
      refine OblS.val (by kernel_rfl) (fun w' hb hH => ?_) ?_
      · obtain ⟨A', c', rfl, hsl⟩ := hH _ (List.mem_cons_of_mem _ (List.mem_cons_self ..)) (by kernel_rfl)
        kernel_rfl
      refine OblS.run RSl.stable (by kernel_rfl) (fun w' hb hH => ?_) ?_
      · obtain ⟨A', c', rfl, hsl⟩ := hH _ (List.mem_cons_self ..) (by kernel_rfl)
        exact ⟨_, w', (by kernel_rfl), ⟨A', c', rfl, hsl⟩, Below.refl _ _⟩
      intro v9
      refine OblS.val (by kernel_rfl) (fun w' _ _ => (by kernel_rfl)) ?_
      refine OblS.val (by kernel_rfl) (fun w' _ _ => (by kernel_rfl)) ?_
      apply OblS.nil
      apply hK
      intro w5 hb hH
      obtain ⟨A9, c9, rfl, hsl9⟩ := hH _ (List.mem_cons_self ..)
      have HS9 := Lib.hid hsl9; have E5 := Lib.hid (E0.out.keep hb)
      clear hH hK K hsl9 hb HBe HFo E0
      simp only [Act.put, List.setIfInBounds_toArray, List.set_cons_zero, List.set_cons_succ, List.drop_succ_cons, List.drop_zero]
      go_wp2_with (first
        | (refine wpList_load_row rfl 25 _ rfl w.heap.size rfl 25 _ (0, 0) _ E5.out.tab Tryz.underlying25 rfl (by kernel_rfl) ?_)
        | (go_at_call 104; refine (HOv0.out A9 c9 _ E5.out.below HS9.out).mono ?_; rintro e w6 ⟨rfl, hb6⟩; have E6 := Lib.hid (E5.out.keep hb6))
        | (refine wpList_store_all rfl 31 _ _ rfl (w.heap.size + 1 + 1) rfl _ rfl 31 _ E6.out.res (by kernel_rfl) rfl (by simp [Value.oneCell']) ?_))
      have S6 := Lib.hid (HS9.out.keep hb6)
      clear hb6
      go_loopw [11] (fun x wr => ∃ k : Nat, k ≤ 30 ∧ x = .int .i64 ((k : Int) + 1) ∧ Bz w ⟨pA, sA, rA, pn, pc, sn, sc, rn, rc, ps, ss, rs⟩ wr ∧ SlOf Bd.cs 4 wr A9 m (bodiesL rs h1) ∧ so = searchN P ss (30 - k) ((k : Int) + 1)) (fun x _ => 31 - (intOf x).toNat)
      case atStart => exact ⟨0, by omega, rfl, E6.out, S6.out, HS1.out.symm⟩
      case round =>
        obtain ⟨k, hk, rfl, hE, hS, hQ⟩ := hrel
        have EE := Lib.hid hE; have HS := Lib.hid hS; have HQ := Lib.hid hQ
        clear hE hS hQ
        by_cases hkn : k < 30
        · have hle : (k : Int) + 1 ≤ 30 := by omega
          have HQ1 := Lib.hid (show so = match ss.find? (fun d => P d ((k : Int) + 1)) with | some d => some (d, (k : Int) + 1) | none => searchN P ss (30 - (k + 1)) (((k + 1 : Nat) : Int) + 1) by
            rw [HQ.out, show 30 - k = (30 - (k + 1)) + 1 by omega, searchN_step]; push_cast; rfl)
          obtain ⟨wo, rfl⟩ : ∃ wo : World, wo = wr := ⟨_, rfl⟩
          go_wp2
          go_loopw [12] (fun x wr => ∃ i : Nat, i ≤ sn ∧ x = .int .i64 i ∧ Bz w ⟨pA, sA, rA, pn, pc, sn, sc, rn, rc, ps, ss, rs⟩ wr ∧ SlOf Bd.cs 4 wr A9 m (bodiesL rs h1) ∧ ss.find? (fun d => P d ((k : Int) + 1)) = (ss.drop i).find? (fun d => P d ((k : Int) + 1))) (fun x _ => sn - (intOf x).toNat)
          case atStart => exact ⟨0, by omega, rfl, EE.out, HS.out, by simp⟩
          case round =>
            obtain ⟨i, hi, rfl, hE, hS, hF⟩ := hrel
            have EQ := Lib.hid hE; have HSq := Lib.hid hS; have HF := Lib.hid hF
            clear hE hS hF
            have ct := EQ.out.tab.cell
            by_cases hin : i < sn
            · have hil : i < ss.length := by omega
              have HFs := Lib.hid (find_drop (p := fun d => P d ((k : Int) + 1)) hil)
              obtain ⟨b2, o2, he2⟩ := HSl.out.addr (by omega)
              have hx := List.getElem?_eq_getElem hil
              have hd := HSs.out _ (List.getElem_mem hil)
              obtain ⟨d, hdd⟩ : ∃ d, d = ss[i] := ⟨_, rfl⟩
              try simp only at hd
              rw [← hdd] at hx hd HFs
              try simp only at he2
              subst he2
              have CS := Lib.hid fun (W : World) (hb : Below wr.heap.size wr W) => (show W.cell? ⟨b2, o2 + i, none⟩ = some (.int .i64 d) by simpa using ((HSl.out.keep (nextB EQ.out.below hb)).range inC_len hx) 0 _ rfl)
              have cs := CS.out wr (Below.refl _ _)
              clear hx hdd
              have hs := stayS_sok (d := d) (n := (k : Int) + 1) hd (by omega)
              have HPd := Lib.hid (HOk.out d ((k : Int) + 1))
              have HOv := Lib.hid fun (W : World) (hb : Below wr.heap.size wr W) => HB.out.over h1 HO.out d (by omega) A9 c9 W (nextB EQ.out.below hb) (HSq.out.keep hb)
              have HAf := Lib.hid fun (W : World) (hb : Below wr.heap.size wr W) => HB.out.after h1 HO.out (stayS d d ((k : Int) + 1)) hs A9 c9 W (HSq.out.keep hb)
              have HOv2 := Lib.hid fun (A' : Option Addr) (c' : Nat) (W : World) (hb : Below wr.heap.size wr W) (hs' : SlOf Bd.cs 4 W A' m (bodiesL rs (stayH h1 (stayS d d ((k : Int) + 1))))) => HB.out.over _ (HO.out.stay hs) 0 (by omega) A' c' W (nextB EQ.out.below hb) hs'
              simp only [Tm.tab] at HPd HOv HAf HOv2
              generalize overL ps 0 (bodiesL rs (stayH h1 (stayS d d ((k : Int) + 1)))) = x2 at *
              generalize bodiesL rs (stayH h1 (stayS d d ((k : Int) + 1))) = bs2 at *
              generalize overL ps d (bodiesL rs h1) = x1 at *
              simp only [stayS, St.val] at HAf
              clear hs
              by_cases h1x : x1 < 0
              · go_wp2
                apply wp_loose 17 (.v (.agg #[.slice pA pn pc, .slice (some ⟨b2, o2, none⟩) sn sc]) :: .v (.slice A9 m c9) :: .v (.int .i64 d) :: .v (.int .i64 x1) :: .v (.bool true) :: .v (.bool true) :: .v (.agg #[.slice pA pn pc, .slice (some ⟨b2, o2, none⟩) sn sc]) :: .v (.slice A9 m c9) :: .v (.int .i64 d) :: .v (.agg #[.int .i64 d, .int .i64 d]) :: .v (.int .i64 ((k : Int) + 1)) :: .v (.agg #[.int .i64 ((k : Int) + 1), .int .i64 ((k : Int) + 1)]) :: .v (.agg #[.int .i64 d, .int .i64 d, .int .i64 ((k : Int) + 1), .int .i64 ((k : Int) + 1)]) :: .r (RSl m bs2) :: .v (.int .i64 x2) :: .v (.bool (decide (x2 < 0))) :: .v (.bool (decide (x2 < 0))) :: []) (by kernel_rfl) (by kernel_rfl) (by kernel_rfl) (by decide) rfl
                intro K hK
                refine OblS.row rfl 25 (.tmp 3) rfl w.heap.size (by kernel_rfl) 25 _ _ EQ.out.tab Tryz.underlying25 rfl (by kernel_rfl) ?_
                refine OblS.val (by kernel_rfl) (fun w' _ _ => (by kernel_rfl)) ?_
                refine OblS.val (by kernel_rfl) (fun w' _ _ => (by kernel_rfl)) ?_
                refine OblS.call 104 (by kernel_rfl) (fun w' hb hH => ?_) ?_
                · exact ⟨#[.agg #[.slice pA pn pc, .slice (some ⟨b2, o2, none⟩) sn sc], .slice A9 m c9, .int .i64 d], (by kernel_rfl), HOv.out w' hb⟩
                refine OblS.val (by kernel_rfl) (fun w' _ _ => ?_) ?_
                · go_simp
                refine OblS.val (by kernel_rfl) (fun w' _ _ => (by kernel_rfl)) ?_
                refine OblS.rowG (by kernel_rfl) 25 (.tmp 3) rfl w.heap.size (by kernel_rfl) 25 _ _ EQ.out.tab Tryz.underlying25 rfl (by kernel_rfl) ?_
                refine OblS.val (by kernel_rfl) (fun w' _ _ => (by kernel_rfl)) ?_
                refine OblS.val (by kernel_rfl) (fun w' _ _ => (by kernel_rfl)) ?_
                refine OblS.call 61 (by kernel_rfl) (fun w' hb hH => ?_) ?_
                · exact ⟨#[.int .i64 d], (by kernel_rfl), HJ.out d w'⟩
                refine OblS.val (by kernel_rfl) (fun w' _ _ => (by kernel_rfl)) ?_
                refine OblS.call 61 (by kernel_rfl) (fun w' hb hH => ?_) ?_
                · exact ⟨#[.int .i64 ((k : Int) + 1)], (by kernel_rfl), HJ.out ((k : Int) + 1) w'⟩
                refine OblS.val (by kernel_rfl) (fun w' _ _ => (by kernel_rfl)) ?_
                refine OblS.callR 105 RSl.stable (by kernel_rfl) (fun w' hb hH => ⟨#[.slice A9 m c9, .agg #[.int .i64 d, .int .i64 d, .int .i64 ((k : Int) + 1), .int .i64 ((k : Int) + 1)]], (by kernel_rfl), HAf.out w' hb⟩) ?_
                intro v16
                refine OblS.call 104 (by kernel_rfl) (fun w' hb hH => ?_) ?_
                · obtain ⟨A', c', rfl, hsl⟩ := hH _ (List.mem_cons_self ..) (by kernel_rfl)
                  exact ⟨#[.agg #[.slice pA pn pc, .slice (some ⟨b2, o2, none⟩) sn sc], .slice A' m c', .int .i64 0], (by kernel_rfl), HOv2.out A' c' w' hb hsl⟩
                refine OblS.val (by kernel_rfl) (fun w' _ _ => ?_) ?_
                · go_simp
                refine OblS.val (by kernel_rfl) (fun w' _ _ => (by kernel_rfl)) ?_
                apply OblS.nil
                apply hK
                intro w7 hb hH
                have E7 := Lib.hid (EQ.out.keep hb); have S7 := Lib.hid (HSq.out.keep hb)
                clear hH hK K hb
                simp only [Act.put, List.setIfInBounds_toArray, List.set_cons_zero, List.set_cons_succ, List.drop_succ_cons, List.drop_zero]
                by_cases h2x : x2 < 0
                · have HR := Lib.hid (show so = some (d, (k : Int) + 1) by rw [HQ1.out, HF.out, HFs.out, HPd.out]; simp [h1x, h2x])
                  have E8 := Lib.hid E7.out.res
                  go_wp2_with (refine wpList_store_all rfl 31 _ _ rfl (w.heap.size + 1 + 1) rfl _ rfl 31 _ E8.out (by kernel_rfl) rfl (by simp [Value.oneCell']) ?_)
                  refine bodyPost_ret (results_row_tmp Tryz.results68 _ _ (w.heap.size + 1 + 1) 31 _ (0, 0) _ rfl (E8.out.setRow _) Tryz.underlying31 rfl (by kernel_rfl)) rfl ⟨?_, rowB E7.out.below (by omega) _⟩
                  rw [HR.out]; rfl
                · go_wp2
                  go_roundw
                  case rel => exact ⟨i + 1, by omega, by go_num, E7.out, S7.out, by rw [HF.out, HFs.out, HPd.out]; simp [h1x, h2x]⟩
                  case measure => simp [intOf]; omega
              · go_wp2
                apply wp_loose 17 (.v (.agg #[.slice pA pn pc, .slice (some ⟨b2, o2, none⟩) sn sc]) :: .v (.slice A9 m c9) :: .v (.int .i64 d) :: .v (.int .i64 x1) :: .v (.bool false) :: .v (.bool false) :: .v undef :: .v undef :: .v undef :: .v undef :: .v undef :: .v undef :: .v undef :: .v undef :: .v undef :: .v undef :: .v (.bool false) :: []) (by kernel_rfl) (by kernel_rfl) (by kernel_rfl) (by decide) rfl
                intro K hK
                refine OblS.row rfl 25 (.tmp 3) rfl w.heap.size (by kernel_rfl) 25 _ _ EQ.out.tab Tryz.underlying25 rfl (by kernel_rfl) ?_
                refine OblS.val (by kernel_rfl) (fun w' _ _ => (by kernel_rfl)) ?_
                refine OblS.val (by kernel_rfl) (fun w' _ _ => (by kernel_rfl)) ?_
                refine OblS.call 104 (by kernel_rfl) (fun w' hb hH => ?_) ?_
                · exact ⟨#[.agg #[.slice pA pn pc, .slice (some ⟨b2, o2, none⟩) sn sc], .slice A9 m c9, .int .i64 d], (by kernel_rfl), HOv.out w' hb⟩
                refine OblS.val (by kernel_rfl) (fun w' _ _ => ?_) ?_
                · go_simp
                refine OblS.val (by kernel_rfl) (fun w' _ _ => (by kernel_rfl)) ?_
                iterate 10 refine OblS.skip (by kernel_rfl) ?_
                refine OblS.val (by kernel_rfl) (fun w' _ _ => (by kernel_rfl)) ?_
                apply OblS.nil
                apply hK
                intro w7 hb hH
                have E7 := Lib.hid (EQ.out.keep hb); have S7 := Lib.hid (HSq.out.keep hb)
                clear hH hK K hb
                simp only [Act.put, List.setIfInBounds_toArray, List.set_cons_zero, List.set_cons_succ, List.drop_succ_cons, List.drop_zero]
                go_wp2
                go_roundw
                case rel => exact ⟨i + 1, by omega, by go_num, E7.out, S7.out, by rw [HF.out, HFs.out, HPd.out]; simp [show ¬ x1 < 0 by omega]⟩
                case measure => simp [intOf]; omega
            · have hie : i = sn := by omega
              subst hie
              have HN := Lib.hid (show so = searchN P ss (30 - (k + 1)) (((k + 1 : Nat) : Int) + 1) by rw [HQ1.out, HF.out, List.drop_eq_nil_of_le (by omega)]; rfl)
              go_wp2
              go_roundw
              case rel => exact ⟨k + 1, by omega, by go_num, EQ.out, HSq.out, HN.out⟩
              case measure => simp [intOf]; omega
        · have hke : k = 30 := by omega
          subst hke
          have HN := Lib.hid (show so = none by rw [HQ.out]; rfl)
          go_wp2_with (refine wpList_store_all rfl 31 _ _ rfl (w.heap.size + 1 + 1) rfl _ rfl 31 _ EE.out.res (by kernel_rfl) rfl (by simp [Value.oneCell']) ?_)
          refine bodyPost_ret (results_row_tmp Tryz.results68 _ _ (w.heap.size + 1 + 1) 31 _ (0, 0) _ rfl (EE.out.res.setRow _) Tryz.underlying31 rfl (by kernel_rfl)) rfl ⟨?_, rowB EE.out.below (by omega) _⟩
          rw [HN.out]; rfl
  · have hge : mo ≥ 0 := by omega
    have HSO1 := HSO.out
    rw [decide_eq_false hmo, if_neg (by simp)] at HSO1
    subst HSO1
    clear HSO HB HOk HSs HSl hsl HJ HOv0 hsn HO
    obtain ⟨pA, sA, rA, pn, pc, sn, sc, rn, rc, ps, ss, rs⟩ := t
    simp only [Tm.tab, Tm.man] at *
    generalize bodiesL rs h0 = bs at *
    go_enter Tryz.func68, Tryz.ntmps68
    go_wp2
    generalize ((w.alloc (.cells #[.slice pA pn pc, .slice sA sn sc] 25)).alloc (.cells #[.slice rA rn rc] 28)).alloc (.cells #[.int .i64 0, .int .i64 0] 31) = W1 at *
    apply wp_loose 12 (.v (.agg #[.slice pA pn pc, .slice sA sn sc]) :: .v (.agg #[.slice rA rn rc]) :: .r (RSl m bs) :: .v (.slice A n c) :: .r (RTu m (bodiesL rs h1) mo pa) :: .r (RTu m (bodiesL rs h1) mo pa) :: .r (RSl m (bodiesL rs h1)) :: .v (.int .i64 mo) :: .v (.int .i64 pa) :: .r (RSl m (bodiesL rs h1)) :: .v (.int .i64 mo) :: .v (.int .i64 pa) :: []) (by kernel_rfl) (by kernel_rfl) (by kernel_rfl) (by decide) rfl
    intro K hK
    refine OblS.row rfl 25 (.tmp 3) rfl w.heap.size (by kernel_rfl) 25 _ _ E0.out.tab Tryz.underlying25 rfl (by kernel_rfl) ?_
    refine OblS.row rfl 28 (.tmp 4) rfl (w.heap.size + 1) (by kernel_rfl) 28 _ _ E0.out.man Tryz.underlying28 rfl (by kernel_rfl) ?_
    refine OblS.callR 103 RSl.stable (by kernel_rfl) (fun w' hb _ => ⟨#[.agg #[.slice rA rn rc]], (by kernel_rfl), HBe.out w' (nextB E0.out.below hb)⟩) ?_
    intro v2
    refine OblS.val (by kernel_rfl) (fun w' _ _ => (by kernel_rfl)) ?_
    refine OblS.callR 102 RTu.stable (by kernel_rfl) (fun w' hb hH => ?_) ?_
    · obtain ⟨A', c', rfl, hsl⟩ := hH _ (List.mem_cons_self ..) (by kernel_rfl)
      exact ⟨#[.agg #[.slice pA pn pc, .slice sA sn sc], .slice A' m c', .slice A n c], (by kernel_rfl), HFo.out w' (nextB E0.out.below hb) A' c' hsl⟩
    intro v4
    refine OblS.run RTu.stable (by kernel_rfl) (fun w' hb hH => ?_) ?_
    · obtain ⟨A', c', rfl, hsl⟩ := hH _ (List.mem_cons_self ..) (by kernel_rfl)
      exact ⟨_, w', (by kernel_rfl), ⟨A', c', rfl, hsl⟩, Below.refl _ _⟩
    intro v5
    refine OblS.run RSl.stable (by kernel_rfl) (fun w' hb hH => ?_) ?_
    · obtain ⟨A', c', rfl, hsl⟩ := hH _ (List.mem_cons_self ..) (by kernel_rfl)
      exact ⟨_, w', (by kernel_rfl), ⟨A', c', rfl, hsl⟩, Below.refl _ _⟩
    intro v6
    refine OblS.val (by kernel_rfl) (fun w' hb hH => ?_) ?_
    · obtain ⟨A', c', rfl, hsl⟩ := hH _ (List.mem_cons_of_mem _ (List.mem_cons_self ..)) (by kernel_rfl)
      kernel_rfl
    refine OblS.val (by kernel_rfl) (fun w' hb hH => ?_) ?_
    · obtain ⟨A', c', rfl, hsl⟩ := hH _ (List.mem_cons_of_mem _ (List.mem_cons_self ..)) (by kernel_rfl)
      kernel_rfl
    refine OblS.run RSl.stable (by kernel_rfl) (fun w' hb hH => ?_) ?_
    · obtain ⟨A', c', rfl, hsl⟩ := hH _ (List.mem_cons_self ..) (by kernel_rfl)
      exact ⟨_, w', (by kernel_rfl), ⟨A', c', rfl, hsl⟩, Below.refl _ _⟩
    intro v9
    refine OblS.val (by kernel_rfl) (fun w' _ _ => (by kernel_rfl)) ?_
    refine OblS.val (by kernel_rfl) (fun w' _ _ => (by kernel_rfl)) ?_
    apply OblS.nil
    apply hK
    intro w5 hb hH
    obtain ⟨A9, c9, rfl, hsl9⟩ := hH _ (List.mem_cons_self ..)
    have HS9 := Lib.hid hsl9; have E5 := Lib.hid (E0.out.keep hb)
    clear hH hK K hsl9 hb HBe HFo E0
    simp only [Act.put, List.setIfInBounds_toArray, List.set_cons_zero, List.set_cons_succ, List.drop_succ_cons, List.drop_zero]
    go_wp2_with (refine wpList_store_all rfl 31 _ _ rfl (w.heap.size + 1 + 1) rfl _ rfl 31 _ E5.out.res (by kernel_rfl) rfl (by simp [Value.oneCell']) ?_)
    refine bodyPost_ret (results_row_tmp Tryz.results68 _ _ (w.heap.size + 1 + 1) 31 _ (0, 0) _ rfl (E5.out.res.setRow _) Tryz.underlying31 rfl (by kernel_rfl)) rfl ⟨rfl, rowB E5.out.below (by omega) _⟩
end Go.Proofs
