/-
  Contracts of a dive that is followed hold where table, man and stages are as defined.
-/
import Derived.Test.YtahochgbkhpefabGreatDoorP2
namespace Go.Proofs
open Go.RowKit Go.Shelf Gas
attribute [local go_sem ↓] Go.wp_at_zero Go.wp_at_succ

/-- What is held after a stage. -/
def aftP (s : St) (r : Int) (v : Pr) : Pr := allF v.1 v.2 r s.dl s.dh s.ml.toNat (s.mh - s.ml).toNat
structure SOk (s : St) : Prop where
  dl : 0 ≤ s.dl ∧ s.dl ≤ 40
  dh : 0 ≤ s.dh ∧ s.dh ≤ 40
  m : 0 ≤ s.ml ∧ s.ml ≤ s.mh ∧ s.mh ≤ 1000
def vOk (v : Pr) : Prop := 0 ≤ v.1 ∧ v.1 ≤ 20000 ∧ 0 ≤ v.2 ∧ v.2 ≤ 20000
theorem allF_bd {lo hi r dl dh : Int} (hr : 0 ≤ r ∧ r ≤ 1000) (hlo : 0 ≤ lo ∧ lo ≤ 20000) (hhi : 0 ≤ hi ∧ hi ≤ 20000) (hdl : 0 ≤ dl ∧ dl ≤ 100) (hdh : 0 ≤ dh ∧ dh ≤ 100) (m : Nat) : ∀ k, vOk (allF lo hi r dl dh m k)
  | 0 => by
    have a := loadF_bd (B := 20000) (n := m) hr hdl.1 hlo.1 hlo.2 (by unfold pres; omega)
    have b := loadF_bd (B := 20000) (n := m) hr hdh.1 hhi.1 hhi.2 (by unfold pres; omega)
    exact ⟨a.1, a.2, b.1, b.2⟩
  | k + 1 => by
    have ih := allF_bd hr hlo hhi hdl hdh m k
    have a := loadF_bd (B := 20000) (n := m + k + 1) hr hdl.1 hlo.1 hlo.2 (by unfold pres; omega)
    have b := loadF_bd (B := 20000) (n := m + k + 1) hr hdh.1 hhi.1 hhi.2 (by unfold pres; omega)
    unfold vOk at *
    simp only [allF, nowF]
    omega
theorem aftP_ok {s : St} (hs : SOk s) {r : Int} (hr : 0 ≤ r ∧ r ≤ 1000) {v : Pr} (hv : vOk v) : vOk (aftP s r v) :=
  allF_bd hr ⟨hv.1, hv.2.1⟩ ⟨hv.2.2.1, hv.2.2.2⟩ ⟨hs.dl.1, by have := hs.dl.2; omega⟩ ⟨hs.dh.1, by have := hs.dh.2; omega⟩ _ _
theorem after_s (s : St) (hs : SOk s) (r : Int) (hr : 0 ≤ r ∧ r ≤ 1000) (v : Pr) (hv : vOk v) (w : World) :
    Calls Tryz.prog 123 #[sv v, .int .i64 r, .agg #[.int .i64 s.dl, .int .i64 s.dh, .int .i64 s.ml, .int .i64 s.mh]] w fun e w' => e = .returned (sv (aftP s r v)) ∧ Below w.heap.size w w' := by
  obtain ⟨dl, dh, ml, mh⟩ := s
  obtain ⟨h1, h2, h3, h4, h5⟩ := hs
  obtain ⟨m, rfl⟩ := Int.eq_ofNat_of_zero_le h3
  simp only at *
  exact after_c v.1 v.2 r dl dh mh m (mh - m).toNat ⟨hv.1, hv.2.1⟩ ⟨hv.2.2.1, hv.2.2.2⟩ hr (by omega) (by omega) (by omega) (by omega) (by omega) w

theorem begin1_c (p : Nat) (x : Int) (w : World) : Calls Tryz.prog 97 #[bk p x] w fun e w' => e = .returned (sv (1000, 1000)) ∧ Below w.heap.size w w' := by
  unfold bk sv
  have Z := Lib.hid (Has.new' (w.alloc (.cells #[.int .i64 p, .int .i64 x] 145)) 43 #[.int .i64 0, .int .i64 0] (g := w.heap.size + 1) (by simp))
  go_enter Tryz.func97, Tryz.ntmps97
  go_wp2_with (first
    | (go_at_call 98; refine (just_c _ _).mono ?_; rintro e w1 ⟨rfl, hb1⟩)
    | (refine wpList_store_all rfl 43 _ _ rfl (w.heap.size + 1) rfl _ rfl 43 _ (Z.out.after hb1) (by kernel_rfl) rfl (by simp [Value.oneCell']) ?_))
  exact bodyPost_ret (results_cell_row Tryz.results97 _ _ (w.heap.size + 1) 43 _ (0, 0) _ rfl ((Z.out.after hb1).setRow _) Tryz.underlying43 rfl (by kernel_rfl)) rfl ⟨rfl, rowB (nextB (newB (newB (Below.refl _ _) _) _) hb1) (by omega) _⟩

theorem MapAt.setRow {w : World} {b k : Nat} {f : Int → Int → Option Pr} (h : MapAt w b f) (hk : b ≠ k) (cs : Array Value) : MapAt (w.setRow k cs) b f := h.same (setRow_other w k b cs hk)
theorem MapAt.setCell {w : World} {b : Nat} {f : Int → Int → Option Pr} (h : MapAt w b f) {p : Addr} (hk : b ≠ p.block) (u : Value) : MapAt (w.setCell p u) b f := h.same (Below.heap_setCell w p u b hk)
def FolV (t : Tm) (b : Nat) (kp : Bool) : Value := .agg (folC t (.map (some b)) kp)
/-- A dive that is followed, as what a call hands back, and what it holds. -/
def IsFol (w0 : World) (t : Tm) (h : Nat → Int → Pr) (kp : Bool) (e : Ending) (w' : World) : Prop := ∃ b, e = .returned (FolV t b kp) ∧ MapAt w' b (heldF t.rs h) ∧ Below w0.heap.size w0 w'

structure Tm.Ok (t : Tm) : Prop where
  small : t.Small
  np : t.rn = t.pn
  rates : t.rs.all rateB = true
  parts : t.ps.all partB = true
theorem Tm.Ok.part {t : Tm} (h : t.Ok) {p : Nat} (hp : p < t.ps.length) : 0 ≤ (t.ps.getD p (0, 0)).1 ∧ (t.ps.getD p (0, 0)).1 ≤ 20000 ∧ 0 ≤ (t.ps.getD p (0, 0)).2 ∧ (t.ps.getD p (0, 0)).2 ≤ 400 := by
  have hx := List.getElem?_eq_getElem hp
  have hgd : t.ps.getD p (0, 0) = t.ps[p] := by simp [List.getD_eq_getElem?_getD, hx]
  have := List.all_eq_true.1 h.parts _ (List.getElem_mem hp)
  rw [hgd]
  simp only [partB, inB, Bool.and_eq_true, decide_eq_true_eq] at this
  omega
theorem Tm.Ok.rate {t : Tm} (h : t.Ok) {p : Nat} (hp : p < t.rs.length) : 1 ≤ (t.rs.getD p (0, 0)).1 ∧ (t.rs.getD p (0, 0)).1 ≤ (t.rs.getD p (0, 0)).2 ∧ (t.rs.getD p (0, 0)).2 ≤ 400 := by
  have hx := List.getElem?_eq_getElem hp
  have hgd : t.rs.getD p (0, 0) = t.rs[p] := by simp [List.getD_eq_getElem?_getD, hx]
  have := List.all_eq_true.1 h.rates _ (List.getElem_mem hp)
  rw [hgd]
  simp only [rateB, ordB, decide_eq_true_eq] at this
  omega

set_option maxHeartbeats 1000000 in
theorem begin_c (t : Tm) (ht : t.Ok) (w : World) (hi : t.In w) : Calls Tryz.prog 57 #[t.tab, t.man] w (IsFol w t (fun _ _ => (1000, 1000)) true) := by
  have HE := Lib.hid fun (w1 : World) (h : Below w.heap.size w w1) => each_c t (.map none) true 97 #[] (fun _ _ => (1000, 1000)) ht.small ht.np ht.rates w1 (hi.keep h) (enters_of Tryz.func97 (by kernel_rfl) rfl) (fun p x w' _ _ _ _ => by simpa using begin1_c p x w')
  obtain ⟨pA, sA, rA, pn, pc, sn, sc, rn, rc, ps, ss, rs⟩ := t
  simp only [Tm.tab, Tm.man, folC] at *
  clear hi ht
  have Z := Lib.hid (Has.new' ((w.alloc (.cells #[.slice pA pn pc, .slice sA sn sc] 25)).alloc (.cells #[.slice rA rn rc] 28)) 108 #[.slice none 0 0, .slice none 0 0, .slice none 0 0, .map none, .bool false] (g := w.heap.size + 1 + 1) (by simp))
  have F := Lib.hid (Has.new' (((w.alloc (.cells #[.slice pA pn pc, .slice sA sn sc] 25)).alloc (.cells #[.slice rA rn rc] 28)).alloc (.cells #[.slice none 0 0, .slice none 0 0, .slice none 0 0, .map none, .bool false] 108)) 108 #[.slice pA pn pc, .slice sA sn sc, .slice rA rn rc, .map none, .bool true] (g := w.heap.size + 1 + 1 + 1) (by simp))
  go_enter Tryz.func57, Tryz.ntmps57
  go_wp2_with (first
    | (go_at_call 96; refine (HE.out _ (newB (newB (newB (newB (Below.refl _ _) _) _) _) _)).mono ?_; rintro e w1 ⟨b, rfl, hbb, hM, hb1⟩; have hb2 := Lib.hid hb1; have hM2 := Lib.hid hM; have c1 := (F.out.after hb1).cell; have c2 := (F.out.after hb1).frozen; have c3 := (F.out.after hb1).lt; have Z2 := Lib.hid ((Z.out.alloc _).after hb1); have F2 := Lib.hid (F.out.after hb1); clear hb1 hM)
    | (refine wpList_load_row rfl 108 _ rfl (w.heap.size + 1 + 1 + 1) rfl 108 _ (0, 0) _ (F2.out.set 3 _) Tryz.underlying108 rfl (by kernel_rfl) ?_)
    | (refine wpList_store_all rfl 108 _ _ rfl (w.heap.size + 1 + 1) rfl _ rfl 108 _ (Z2.out.far (by simp) _) (by kernel_rfl) rfl (by simp [Value.oneCell']) ?_))
  refine bodyPost_ret (results_cell_row Tryz.results57 _ _ (w.heap.size + 1 + 1) 108 _ (0, 0) _ rfl ((Z2.out.far (by simp) _).setRow _) Tryz.underlying108 rfl (by kernel_rfl)) rfl ?_
  simp only [World.size_alloc] at hbb
  refine ⟨b, rfl, (hM2.out.setCell (by show b ≠ w.heap.size + 1 + 1 + 1; omega) _).setRow (by omega) _, rowB (setB (nextB (newB (newB (newB (newB (Below.refl _ _) _) _) _) _) hb2.out) (by show w.heap.size ≤ w.heap.size + 1 + 1 + 1; omega) _) (by omega) _⟩


structure FolOk (t : Tm) (h : Nat → Int → Pr) : Prop where
  tok : t.Ok
  held : ∀ (p : Nat) (x : Int), p < t.rs.length → (t.rs.getD p (0, 0)).1 ≤ x → x ≤ (t.rs.getD p (0, 0)).2 → vOk (h p x)
theorem heldF_some {rs : List Pr} {h : Nat → Int → Pr} {p : Nat} {x : Int} (hp : p < rs.length) (h1 : (rs.getD p (0, 0)).1 ≤ x) (h2 : x ≤ (rs.getD p (0, 0)).2) : heldF rs h p x = some (h p x) := by
  unfold heldF
  rw [if_pos (by simp only [Int.toNat_natCast]; omega)]
  rfl

set_option maxHeartbeats 1000000 in
theorem pass1_c (t : Tm) (h : Nat → Int → Pr) (ho : FolOk t h) (s : St) (hs : SOk s) (b fb sb : Nat) (kp : Bool) (p : Nat) (x : Int) (hp : p < t.rs.length) (hx1 : (t.rs.getD p (0, 0)).1 ≤ x) (hx2 : x ≤ (t.rs.getD p (0, 0)).2) (w : World)
    (hf : Has w fb 108 (folC t (.map (some b)) kp)) (hst : Has w sb 80 #[.int .i64 s.dl, .int .i64 s.dh, .int .i64 s.ml, .int .i64 s.mh]) (hm : MapAt w b (heldF t.rs h)) :
    Calls Tryz.prog 122 #[bk p x, .pointer (some ⟨fb, 0, none⟩), .pointer (some ⟨sb, 0, none⟩)] w fun e w' => e = .returned (sv (aftP s x (h p x))) ∧ Below w.heap.size w w' := by
  have hr := ho.tok.rate hp
  have HV := Lib.hid (ho.held p x hp hx1 hx2)
  have HL := Lib.hid fun (w' : World) (hb : Below w.heap.size w w') => (hm.keep hb).lookup (heldF_some (h := h) hp hx1 hx2)
  have HA := Lib.hid fun (w' : World) => after_s s hs x (by omega) (h p x) HV.out w'
  obtain ⟨pA, sA, rA, pn, pc, sn, sc, rn, rc, ps, ss, rs⟩ := t
  simp only [folC] at *
  have HF := Lib.hid hf; have HS := Lib.hid hst
  clear hf hst hm ho hr hs
  unfold bk
  have Z := Lib.hid (Has.new' (w.alloc (.cells #[.int .i64 p, .int .i64 x] 145)) 43 #[.int .i64 0, .int .i64 0] (g := w.heap.size + 1) (by simp))
  have N := Lib.hid ((Has.new w 145 #[.int .i64 p, .int .i64 x]).alloc (.cells #[.int .i64 0, .int .i64 0] 43))
  have B2 := Lib.hid (newB (newB (Below.refl w.heap.size w) (.cells #[.int .i64 p, .int .i64 x] 145)) (.cells #[.int .i64 0, .int .i64 0] 43))
  go_enter Tryz.func122, Tryz.ntmps122
  go_wp2
  generalize (w.alloc (.cells #[.int .i64 p, .int .i64 x] 145)).alloc (.cells #[.int .i64 0, .int .i64 0] 43) = W at *
  have k1 := Lib.hid (HF.out.after B2.out); have k2 := Lib.hid (HS.out.after B2.out)
  refine wp_free 8 (by kernel_rfl) (by kernel_rfl) (by kernel_rfl) (by decide) ?_
  intro K hK
  repeat' (first
    | (refine Obl.row (by decide) rfl 145 _ rfl w.heap.size rfl 145 _ _ N.out Tryz.underlying145 rfl (by kernel_rfl) ?_)
    | (refine Obl.row (by decide) rfl 80 _ rfl sb rfl 80 _ _ k2.out Tryz.underlying80 rfl (by kernel_rfl) ?_)
    | (apply Obl.call (by decide) rfl; (intro w' hb; go_simp; exact ⟨rfl, rfl⟩); (intro w' hb; exact HA.out w'))
    | (apply Obl.val (by decide) rfl; (intro w' hb; have hl := HL.out w' (B2.out.trans (hb.mono B2.out.size)); unfold bk at hl; go_simp; rfl))
    | (apply Obl.val (by decide) rfl; (intro w' hb; have := (k1.out.after hb).cell; have := (N.out.after hb).cell; go_simp; rfl)))
  apply Obl.nil
  apply hK
  intro w2 hb
  simp only [Act.put, List.setIfInBounds_toArray, List.set_cons_zero, List.set_cons_succ, List.drop_succ_cons, List.drop_zero]
  clear hK K
  unfold sv
  go_wp2_with (refine wpList_store_all rfl 43 _ _ rfl (w.heap.size + 1) rfl _ rfl 43 _ (Z.out.after hb) (by kernel_rfl) rfl (by simp [Value.oneCell']) ?_)
  exact bodyPost_ret (results_cell_row Tryz.results122 _ _ (w.heap.size + 1) 43 _ (0, 0) _ rfl ((Z.out.after hb).setRow _) Tryz.underlying43 rfl (by kernel_rfl)) rfl ⟨rfl, rowB (nextB B2.out hb) (by omega) _⟩
end Go.Proofs
namespace Go.Proofs
open Go.RowKit Go.Shelf Gas
attribute [local go_sem ↓] Go.wp_at_zero Go.wp_at_succ

def St.val (s : St) : Value := .agg #[.int .i64 s.dl, .int .i64 s.dh, .int .i64 s.ml, .int .i64 s.mh]
theorem FolOk.pass {t : Tm} {h : Nat → Int → Pr} (ho : FolOk t h) {s : St} (hs : SOk s) : FolOk t (fun p x => aftP s x (h p x)) :=
  ⟨ho.tok, fun p x hp h1 h2 => aftP_ok hs (by have := ho.tok.rate hp; omega) (ho.held p x hp h1 h2)⟩

set_option maxHeartbeats 1000000 in
theorem pass_c (t : Tm) (h : Nat → Int → Pr) (ho : FolOk t h) (s : St) (hs : SOk s) (b : Nat) (kp : Bool) (w : World) (hi : t.In w) (hm : MapAt w b (heldF t.rs h)) :
    Calls Tryz.prog 101 #[FolV t b kp, s.val] w (IsFol w t (fun p x => aftP s x (h p x)) kp) := by
  have hrl : t.rs.length = t.rn := hi.rs.1
  have HE := Lib.hid fun (w1 : World) (hb : Below w.heap.size w w1) (hf : Has w1 w.heap.size 108 (folC t (.map (some b)) kp)) (hst : Has w1 (w.heap.size + 1) 80 #[.int .i64 s.dl, .int .i64 s.dh, .int .i64 s.ml, .int .i64 s.mh]) =>
    each_c t (.map (some b)) kp 122 #[.pointer (some ⟨w.heap.size, 0, none⟩), .pointer (some ⟨w.heap.size + 1, 0, none⟩)] (fun p x => aftP s x (h p x)) ho.tok.small ho.tok.np ho.tok.rates w1 (hi.keep hb) (enters_of Tryz.func122 (by kernel_rfl) rfl)
      (fun p x w' hp h1 h2 hb' => by simpa using pass1_c t h ho s hs b w.heap.size (w.heap.size + 1) kp p x (by omega) h1 h2 w' (hf.after hb') (hst.after hb') ((hm.keep hb).keep hb'))
  obtain ⟨pA, sA, rA, pn, pc, sn, sc, rn, rc, ps, ss, rs⟩ := t
  obtain ⟨dl, dh, ml, mh⟩ := s
  simp only [folC, FolV, St.val] at *
  clear hi ho hm hs hrl
  have F := Lib.hid (((Has.new w 108 #[.slice pA pn pc, .slice sA sn sc, .slice rA rn rc, .map (some b), .bool kp]).alloc (.cells #[.int .i64 dl, .int .i64 dh, .int .i64 ml, .int .i64 mh] 80)).alloc (.cells #[.slice none 0 0, .slice none 0 0, .slice none 0 0, .map none, .bool false] 108))
  have S := Lib.hid ((Has.new' (w.alloc (.cells #[.slice pA pn pc, .slice sA sn sc, .slice rA rn rc, .map (some b), .bool kp] 108)) 80 #[.int .i64 dl, .int .i64 dh, .int .i64 ml, .int .i64 mh] (g := w.heap.size + 1) (by simp)).alloc (.cells #[.slice none 0 0, .slice none 0 0, .slice none 0 0, .map none, .bool false] 108))
  have Z := Lib.hid (Has.new' ((w.alloc (.cells #[.slice pA pn pc, .slice sA sn sc, .slice rA rn rc, .map (some b), .bool kp] 108)).alloc (.cells #[.int .i64 dl, .int .i64 dh, .int .i64 ml, .int .i64 mh] 80)) 108 #[.slice none 0 0, .slice none 0 0, .slice none 0 0, .map none, .bool false] (g := w.heap.size + 1 + 1) (by simp))
  go_enter Tryz.func101, Tryz.ntmps101
  go_wp2_with (first
    | (go_at_call 96; refine (HE.out _ (newB (newB (newB (Below.refl _ _) _) _) _) F.out S.out).mono ?_; rintro e w1 ⟨b2, rfl, hbb, hM, hb1⟩; have hb2 := Lib.hid hb1; have hM2 := Lib.hid hM; have c1 := (F.out.after hb1).cell; have c2 := (F.out.after hb1).frozen; have c3 := (F.out.after hb1).lt; have Z2 := Lib.hid (Z.out.after hb1); have F2 := Lib.hid (F.out.after hb1); clear hb1 hM)
    | (refine wpList_load_row rfl 108 _ rfl w.heap.size rfl 108 _ (0, 0) _ F.out Tryz.underlying108 rfl (by kernel_rfl) ?_)
    | (refine wpList_load_row rfl 108 _ rfl w.heap.size rfl 108 _ (0, 0) _ (F2.out.set 3 _) Tryz.underlying108 rfl (by kernel_rfl) ?_)
    | (refine wpList_store_all rfl 108 _ _ rfl (w.heap.size + 1 + 1) rfl _ rfl 108 _ (Z2.out.far (by show w.heap.size + 1 + 1 ≠ w.heap.size; omega) _) (by kernel_rfl) rfl (by simp [Value.oneCell']) ?_))
  refine bodyPost_ret (results_cell_row Tryz.results101 _ _ (w.heap.size + 1 + 1) 108 _ (0, 0) _ rfl ((Z2.out.far (by show w.heap.size + 1 + 1 ≠ w.heap.size; omega) _).setRow _) Tryz.underlying108 rfl (by kernel_rfl)) rfl ?_
  simp only [World.size_alloc] at hbb
  refine ⟨b2, rfl, (hM2.out.setCell (by show b2 ≠ w.heap.size; omega) _).setRow (by omega) _, rowB (setB (nextB (newB (newB (newB (Below.refl _ _) _) _) _) hb2.out) (by show w.heap.size ≤ w.heap.size; omega) _) (by omega) _⟩

/-- The least and the greatest of what is held with some rates. -/
def minOf (f : Int → Int) (lo : Int) : Nat → Int
  | 0 => f lo
  | n + 1 => min (minOf f lo n) (f (lo + n))
def maxOf (f : Int → Int) (lo : Int) : Nat → Int
  | 0 => f lo
  | n + 1 => max (maxOf f lo n) (f (lo + n))
def leastF (rs : List Pr) (h : Nat → Int → Pr) (p : Nat) : Int := minOf (fun x => (h p x).1) (rs.getD p (0, 0)).1 (ratesN (rs.getD p (0, 0)).1 (rs.getD p (0, 0)).2)
def greatF (rs : List Pr) (h : Nat → Int → Pr) (p : Nat) : Int := maxOf (fun x => (h p x).2) (rs.getD p (0, 0)).1 (ratesN (rs.getD p (0, 0)).1 (rs.getD p (0, 0)).2)
/-- The least of some numbers, whatever list they are. -/
def minL (f : Int → Int) (a : Int) (l : List Int) : Int := l.foldl (fun m x => min m (f x)) a
def maxL (f : Int → Int) (a : Int) (l : List Int) : Int := l.foldl (fun m x => max m (f x)) a
theorem minL_snoc (f : Int → Int) (a : Int) (l : List Int) (x : Int) : minL f a (l ++ [x]) = min (minL f a l) (f x) := by simp [minL]
theorem maxL_snoc (f : Int → Int) (a : Int) (l : List Int) (x : Int) : maxL f a (l ++ [x]) = max (maxL f a l) (f x) := by simp [maxL]
theorem minL_rates (f : Int → Int) (lo : Int) : ∀ n, minL f (f lo) (ratesL lo n) = minOf f lo n
  | 0 => rfl
  | n + 1 => by rw [ratesL_succ, minL_snoc, minL_rates f lo n]; rfl
theorem maxL_rates (f : Int → Int) (lo : Int) : ∀ n, maxL f (f lo) (ratesL lo n) = maxOf f lo n
  | 0 => rfl
  | n + 1 => by rw [ratesL_succ, maxL_snoc, maxL_rates f lo n]; rfl
end Go.Proofs
namespace Go.Proofs
open Go.RowKit Go.Shelf Gas
attribute [local go_sem] Oper.semAt_some
attribute [local go_sem ↓] Go.wp_at_zero Go.wp_at_succ

/-- A number, and memory at most. -/
def IsInt (w0 : World) (n : Int) (e : Ending) (w' : World) : Prop := e = .returned (.int .i64 n) ∧ Below w0.heap.size w0 w'

set_option maxRecDepth 100000 in
set_option maxHeartbeats 4000000 in
theorem least_c (t : Tm) (h : Nat → Int → Pr) (ho : FolOk t h) (bm : Nat) (kp : Bool) (p : Nat) (hp : p < t.rs.length) (w : World) (hi : t.In w) (hm : MapAt w bm (heldF t.rs h)) :
    Calls Tryz.prog 109 #[FolV t bm kp, .int .i64 p] w (IsInt w (leastF t.rs h p)) := by
  have hr := ho.tok.rate hp
  have hrl : t.rs.length = t.rn := hi.rs.1
  have hprn : p < t.rn := by omega
  have hx := List.getElem?_eq_getElem hp
  obtain ⟨x, hxx⟩ : ∃ x, x = t.rs[p] := ⟨_, rfl⟩
  rw [← hxx] at hx
  have hgd : t.rs.getD p (0, 0) = x := by simp [List.getD_eq_getElem?_getD, hx]
  obtain ⟨b, o, he⟩ := hi.rs.addr (by omega)
  have HL := Lib.hid fun (w' : World) (hb : Below w.heap.size w w') (y : Int) (h1 : x.1 ≤ y) (h2 : y ≤ x.2) => (hm.keep hb).lookup (heldF_some (h := h) hp (by rw [hgd]; exact h1) (by rw [hgd]; exact h2))
  have HMM := Lib.hid hm
  have HE := Lib.hid (show leastF t.rs h p = minL (fun x => (h p x).1) (h p x.1).1 (ratesL x.1 (ratesN x.1 x.2)) by rw [minL_rates]; unfold leastF; rw [hgd])
  obtain ⟨pA, sA, rA, pn, pc, sn, sc, rn, rc, ps, ss, rs⟩ := t
  obtain ⟨lo, hiR⟩ := x
  simp only [FolV, folC] at *
  subst he
  have HR := Lib.hid hi.rs
  have hrg := hi.rs.range prC_len hx
  have k0 : w.cell? ⟨b, o + p * 2, none⟩ = some (.int .i64 lo) := hrg 0 _ rfl
  have k1 : w.cell? ⟨b, o + p * 2 + 1, none⟩ = some (.int .i64 hiR) := hrg 1 _ rfl
  have hbw : b < w.heap.size := block_lt_of_cell k0
  rw [hgd] at hr
  have hp' : (p : Int) < rn := by omega
  clear hrg hm hi ho hx hxx hgd hrl hp
  have F := Lib.hid ((Has.new w 108 #[.slice pA pn pc, .slice sA sn sc, .slice (some ⟨b, o, none⟩) rn rc, .map (some bm), .bool kp]).alloc (.cells #[.int .i64 p] 3))
  have G := Lib.hid (Has.new' (w.alloc (.cells #[.slice pA pn pc, .slice sA sn sc, .slice (some ⟨b, o, none⟩) rn rc, .map (some bm), .bool kp] 108)) 3 #[.int .i64 p] (g := w.heap.size + 1) (by simp))
  have B2 := Lib.hid (newB (newB (Below.refl w.heap.size w) (.cells #[.slice pA pn pc, .slice sA sn sc, .slice (some ⟨b, o, none⟩) rn rc, .map (some bm), .bool kp] 108)) (.cells #[.int .i64 p] 3))
  have K0 := Lib.hid k0; have K1 := Lib.hid k1
  clear k0 k1
  refine callsIn_wide.1 (callsIn_of_wp_marks (n := 3) Tryz.func109 rfl trivial ?_ rfl)
  refine wpIn_wide.2 ?_
  simp only [Tryz.ntmps109, List.size_toArray, List.length_cons, List.length_nil, Nat.reduceAdd, Nat.reduceSub, Array.replicate_succ, Array.replicate_zero, List.push_toArray, List.append_toArray, List.nil_append, List.cons_append]
  go_wp2
  generalize (w.alloc (.cells #[.slice pA pn pc, .slice sA sn sc, .slice (some ⟨b, o, none⟩) rn rc, .map (some bm), .bool kp] 108)).alloc (.cells #[.int .i64 p] 3) = W at *
  refine wp_free1 14 13 3 #[.int .i64 0] (by kernel_rfl) (by kernel_rfl) (by kernel_rfl) (by decide) (by decide) rfl ⟨rfl, fun a w => by kernel_rfl⟩ ?_
  intro K hK
  repeat' (first
    | (apply Obl.makes)
    | (apply Obl.val (by decide) rfl; (intro w' hb; have hl := HL.out w' (B2.out.trans (hb.mono B2.out.size)) lo (by omega) (by omega); unfold bk at hl; go_simp; rfl))
    | (apply Obl.val (by decide) rfl; (intro w' hb; have := (F.out.after hb).cell; have := (G.out.after hb).cell; have := ((B2.out.trans (hb.mono B2.out.size)).cell (p := ⟨b, o + p * 2, none⟩) hbw).trans K0.out; go_simp; rfl)))
  apply Obl.nil
  apply hK
  intro B5 w1 hb hBB hB
  simp only [Act.put, List.setIfInBounds_toArray, List.set_cons_zero, List.set_cons_succ, List.drop_succ_cons, List.drop_zero]
  clear hK K
  have F1 := Lib.hid (F.out.after hb); have G1 := Lib.hid (G.out.after hb)
  have HB1 := Lib.hid (nextB B2.out hb)
  have q5 := hB.cell; have r5 := hB.frozen
  have HB5 := Lib.hid hB
  have z1 := G.out.lt; have z2 := hB.lt; have z3 := hb.size
  have gq := (G.out.after hb).cell
  have n1 : ¬ w.heap.size + 1 = B5 := by omega
  have n2 : ¬ B5 = w.heap.size + 1 := by omega
  clear hb hB
  go_wp2_with (first
    | (refine wpList_load_row rfl 108 _ rfl w.heap.size rfl 108 _ (0, 0) _ (F1.out.far (by show w.heap.size ≠ B5; omega) _) Tryz.underlying108 rfl (by kernel_rfl) ?_)
    | (go_at_call 121; refine (rates_c _ _ _ _ _ _ _).mono ?_; rintro e w' ⟨rfl, rfl⟩))
  have gB := ((HB5.out.set 0 (.int .i64 (h p lo).1)).alloc (.cells #[.slice pA pn pc, .slice sA sn sc, .slice (some ⟨b, o, none⟩) rn rc, .map (some bm), .bool kp] 108)).alloc (.cells #[.int .i64 p] 3)
  have gF := ((F1.out.far (p := ⟨B5, 0, none⟩) (by show w.heap.size ≠ B5; omega) (.int .i64 (h p lo).1)).alloc (.cells #[.slice pA pn pc, .slice sA sn sc, .slice (some ⟨b, o, none⟩) rn rc, .map (some bm), .bool kp] 108)).alloc (.cells #[.int .i64 p] 3)
  have gG := ((G1.out.far (p := ⟨B5, 0, none⟩) (by show w.heap.size + 1 ≠ B5; omega) (.int .i64 (h p lo).1)).alloc (.cells #[.slice pA pn pc, .slice sA sn sc, .slice (some ⟨b, o, none⟩) rn rc, .map (some bm), .bool kp] 108)).alloc (.cells #[.int .i64 p] 3)
  have gf := (Has.new' (w1.setCell ⟨B5, 0, none⟩ (.int .i64 (h p lo).1)) 108 #[.slice pA pn pc, .slice sA sn sc, .slice (some ⟨b, o, none⟩) rn rc, .map (some bm), .bool kp] (g := w1.heap.size) (by simp)).alloc (.cells #[.int .i64 p] 3)
  have gp := Has.new' ((w1.setCell ⟨B5, 0, none⟩ (.int .i64 (h p lo).1)).alloc (.cells #[.slice pA pn pc, .slice sA sn sc, .slice (some ⟨b, o, none⟩) rn rc, .map (some bm), .bool kp] 108)) 3 #[.int .i64 p] (g := w1.heap.size + 1) (by simp)
  have hBl : Below w.heap.size w (((w1.setCell ⟨B5, 0, none⟩ (.int .i64 (h p lo).1)).alloc (.cells #[.slice pA pn pc, .slice sA sn sc, .slice (some ⟨b, o, none⟩) rn rc, .map (some bm), .bool kp] 108)).alloc (.cells #[.int .i64 p] 3)) := newB (newB (setB HB1.out (by show w.heap.size ≤ B5; omega) _) _) _
  have hsz : (((w1.setCell ⟨B5, 0, none⟩ (.int .i64 (h p lo).1)).alloc (.cells #[.slice pA pn pc, .slice sA sn sc, .slice (some ⟨b, o, none⟩) rn rc, .map (some bm), .bool kp] 108)).alloc (.cells #[.int .i64 p] 3)).heap.size = w1.heap.size + 1 + 1 := by simp
  clear q5 r5 gq
  generalize ((w1.setCell ⟨B5, 0, none⟩ (.int .i64 (h p lo).1)).alloc (.cells #[.slice pA pn pc, .slice sA sn sc, .slice (some ⟨b, o, none⟩) rn rc, .map (some bm), .bool kp] 108)).alloc (.cells #[.int .i64 p] 3) = Wl at *
  obtain ⟨s1, s2⟩ : Wl.heap.size ≤ w1.heap.size + 1 + 1 ∧ w1.heap.size + 1 + 1 ≤ Wl.heap.size := by omega
  clear hsz
  have hc0 := (hBl.cell (p := ⟨b, o + p * 2, none⟩) hbw).trans K0.out
  have hc1 := (hBl.cell (p := ⟨b, o + p * 2 + 1, none⟩) hbw).trans K1.out
  refine wp_range (α := Rt lo hiR) 134 #[.pointer (some ⟨w1.heap.size, 0, none⟩), .pointer (some ⟨w1.heap.size + 1, 0, none⟩)] rfl (enters_of Tryz.func134 (by kernel_rfl) rfl)
    (rates_stops Fence.wide 2 trivial rfl (by omega) w1.heap.size (w1.heap.size + 1) B5 b o p ⟨pA, sA, some ⟨b, o, none⟩, pn, pc, sn, sc, rn, rc, ps, ss, rs⟩ (.map (some bm)) kp lo hiR (by omega) hprn rfl Wl gf gp (by omega) (by omega) (by omega) hc0 hc1)
    (fun h1 h2 => h1.trans h2) (fun W l o' hl => Kx.putObj W o' hl) (fun _ => rfl)
    (fun pre W => Wl.grownBy W (some B5) ∧ Has W B5 3 #[.int .i64 (minL (fun x => (h p x).1) (h p lo).1 (pre.map (·.1)))]) ?own ?h0
    (fun x => { tmps := #[.agg #[.slice pA pn pc, .slice sA sn sc, .slice (some ⟨b, o, none⟩) rn rc, .map (some bm), .bool kp], .int .i64 p, .pointer (some ⟨w.heap.size, 0, none⟩), .pointer (some ⟨w.heap.size + 1, 0, none⟩), .int .i64 0, .pointer (some ⟨B5, 0, none⟩), .int .i64 x.1,
      .pointer (some ⟨w.heap.size, 3, none⟩), .map (some bm), .int .i64 p, .pointer (some ⟨w.heap.size, 2, none⟩), .pointer (some ⟨w.heap.size, 2, none⟩), .slice (some ⟨b, o, none⟩) rn rc, .int .i64 p, .pointer (some ⟨b, o + p * 2, none⟩), .pointer (some ⟨b, o + p * 2, none⟩), .int .i64 lo,
      .agg #[.int .i64 p, .int .i64 lo], sv (h p lo), .int .i64 (h p lo).1, .agg #[.slice pA pn pc, .slice sA sn sc, .slice (some ⟨b, o, none⟩) rn rc, .map (some bm), .bool kp], .int .i64 p,
      .func (.func 134) #[] #[.pointer (some ⟨w1.heap.size, 0, none⟩), .pointer (some ⟨w1.heap.size + 1, 0, none⟩)], .int .i64 x.1, undef, undef, undef, undef, undef, undef, undef, undef, undef, undef], defers := [] }) ?assign ?body ?done
  case own =>
    rintro pre A B row ⟨hs1, hs2⟩ hg hr
    refine ⟨grown_two hs1 hg (fun r e => .inr (hr r e).1), (hg.block _ hs2.lt (fun e => ?_)).trans hs2⟩
    have := (hr _ e.symm).1
    omega
  case h0 => exact ⟨grown_refl _ _, gB⟩
  case assign =>
    intro l x W K hK
    gi_wp2
    exact hK
  case body =>
    rintro l pre x W ⟨hg, hcur⟩ hlen
    have E5 := Lib.hid (show minL (fun x => (h p x).1) (h p lo).1 ((pre ++ [x]).map (·.1)) = min (minL (fun x => (h p x).1) (h p lo).1 (pre.map (·.1))) (h p x.1).1 by rw [List.map_append]; exact minL_snoc _ _ _ _)
    generalize minL (fun x => (h p x).1) (h p lo).1 (pre.map (·.1)) = cur at hcur E5
    have j0 := Lib.hid (grown_has hg gF (by omega))
    have j1 := Lib.hid (grown_has hg gG (by omega))
    have HG := Lib.hid hg; have HCur := Lib.hid hcur
    have hbl := grown_base hBl hg (by omega) (by omega)
    have HBL := Lib.hid hbl
    have z5 := hg.size
    clear hbl hg hcur gB gF gG gf gp hc0 hc1
    refine wpIn_block ?_
    refine wpIn_free 9 (by kernel_rfl) (by kernel_rfl) (by kernel_rfl) (by kernel_rfl) (by decide) ?_
    intro K hK
    repeat' (first
      | (apply Obl.val (by decide) rfl; (intro w' hb; have hl := HL.out w' (HBL.out.trans (hb.mono HBL.out.size)) x.1 x.2.1 x.2.2; unfold bk at hl; go_simp; rfl))
      | (apply Obl.val (by decide) rfl; (intro w' hb; have := (j0.out.after hb).cell; have := (j1.out.after hb).cell; have := (HCur.out.after hb).cell; go_simp; rfl)))
    apply Obl.nil
    apply hK
    intro w2 hb
    simp only [Act.put, List.setIfInBounds_toArray, List.set_cons_zero, List.set_cons_succ, List.drop_succ_cons, List.drop_zero]
    clear hK K
    have HC2 := Lib.hid (HCur.out.after hb)
    have q5 := (HCur.out.after hb).cell; have r5 := (HCur.out.after hb).frozen
    have hb2 := Lib.hid hb
    clear hb
    have hgw := Lib.hid fun (u : Value) => grown_two (grown_below (grown_refl W (some B5)) hb2.out) (grownBy_setCell' w2 B5 u) (fun r e => by cases e; exact .inl rfl)
    have hfin := Lib.hid fun (u : Value) => HC2.out.set 0 u
    go_wp2
    all_goals
      refine ⟨KeepsFrom.of_grownBy (hgw.out _) (fun j e => by cases e; omega), grown_kx z5 (hgw.out _), grown_two HG.out (hgw.out _) (fun r e => by cases e; exact .inl rfl), (hfin.out _).eq (congrArg (fun v => #[Value.int .i64 v]) (Eq.trans ?_ E5.out.symm))⟩
      omega
  case done =>
    rintro D ys W hD hS ⟨hg, hcur⟩ hK
    have hS' : ys.map (·.1) = ratesL lo (ratesN lo hiR) := hS
    have hcur' : Has W B5 3 #[.int .i64 (leastF rs h p)] := by rw [HE.out, ← hS']; exact hcur
    have HG := Lib.hid hg; have HK := Lib.hid hK
    have q5 := hcur'.cell
    have HBL := Lib.hid (grown_base hBl hg (by omega) (by omega))
    clear hg hcur hcur' hK hS hS' gB gF gG gf gp hc0 hc1
    go_wp2
    refine leaves_marks [D] W (by simp) (fun D' hD' => by simp at hD'; subst hD'; exact HK.out) (fun w' y1 y2 y3 y4 y5 => ?_)
    refine ⟨_, results_tmp rfl _ _ _, rfl, ⟨y2.trans HBL.out.os, y3.trans HBL.out.tape, y4.trans HBL.out.output, by rw [y1]; exact HBL.out.size, fun i hi => (y5 i (by simp; omega)).trans (HBL.out.block i hi)⟩⟩
end Go.Proofs
namespace Go.Proofs
open Go.RowKit Go.Shelf Gas
attribute [local go_sem] Oper.semAt_some
attribute [local go_sem ↓] Go.wp_at_zero Go.wp_at_succ

set_option maxRecDepth 100000 in
set_option maxHeartbeats 4000000 in
theorem greatest_c (t : Tm) (h : Nat → Int → Pr) (ho : FolOk t h) (bm : Nat) (kp : Bool) (p : Nat) (hp : p < t.rs.length) (w : World) (hi : t.In w) (hm : MapAt w bm (heldF t.rs h)) :
    Calls Tryz.prog 110 #[FolV t bm kp, .int .i64 p] w (IsInt w (greatF t.rs h p)) := by
  have hr := ho.tok.rate hp
  have hrl : t.rs.length = t.rn := hi.rs.1
  have hprn : p < t.rn := by omega
  have hx := List.getElem?_eq_getElem hp
  obtain ⟨x, hxx⟩ : ∃ x, x = t.rs[p] := ⟨_, rfl⟩
  rw [← hxx] at hx
  have hgd : t.rs.getD p (0, 0) = x := by simp [List.getD_eq_getElem?_getD, hx]
  obtain ⟨b, o, he⟩ := hi.rs.addr (by omega)
  have HL := Lib.hid fun (w' : World) (hb : Below w.heap.size w w') (y : Int) (h1 : x.1 ≤ y) (h2 : y ≤ x.2) => (hm.keep hb).lookup (heldF_some (h := h) hp (by rw [hgd]; exact h1) (by rw [hgd]; exact h2))
  have HMM := Lib.hid hm
  have HE := Lib.hid (show greatF t.rs h p = maxL (fun x => (h p x).2) (h p x.1).2 (ratesL x.1 (ratesN x.1 x.2)) by rw [maxL_rates]; unfold greatF; rw [hgd])
  obtain ⟨pA, sA, rA, pn, pc, sn, sc, rn, rc, ps, ss, rs⟩ := t
  obtain ⟨lo, hiR⟩ := x
  simp only [FolV, folC] at *
  subst he
  have HR := Lib.hid hi.rs
  have hrg := hi.rs.range prC_len hx
  have k0 : w.cell? ⟨b, o + p * 2, none⟩ = some (.int .i64 lo) := hrg 0 _ rfl
  have k1 : w.cell? ⟨b, o + p * 2 + 1, none⟩ = some (.int .i64 hiR) := hrg 1 _ rfl
  have hbw : b < w.heap.size := block_lt_of_cell k0
  rw [hgd] at hr
  have hp' : (p : Int) < rn := by omega
  clear hrg hm hi ho hx hxx hgd hrl hp
  have F := Lib.hid ((Has.new w 108 #[.slice pA pn pc, .slice sA sn sc, .slice (some ⟨b, o, none⟩) rn rc, .map (some bm), .bool kp]).alloc (.cells #[.int .i64 p] 3))
  have G := Lib.hid (Has.new' (w.alloc (.cells #[.slice pA pn pc, .slice sA sn sc, .slice (some ⟨b, o, none⟩) rn rc, .map (some bm), .bool kp] 108)) 3 #[.int .i64 p] (g := w.heap.size + 1) (by simp))
  have B2 := Lib.hid (newB (newB (Below.refl w.heap.size w) (.cells #[.slice pA pn pc, .slice sA sn sc, .slice (some ⟨b, o, none⟩) rn rc, .map (some bm), .bool kp] 108)) (.cells #[.int .i64 p] 3))
  have K0 := Lib.hid k0; have K1 := Lib.hid k1
  clear k0 k1
  refine callsIn_wide.1 (callsIn_of_wp_marks (n := 3) Tryz.func110 rfl trivial ?_ rfl)
  refine wpIn_wide.2 ?_
  simp only [Tryz.ntmps110, List.size_toArray, List.length_cons, List.length_nil, Nat.reduceAdd, Nat.reduceSub, Array.replicate_succ, Array.replicate_zero, List.push_toArray, List.append_toArray, List.nil_append, List.cons_append]
  go_wp2
  generalize (w.alloc (.cells #[.slice pA pn pc, .slice sA sn sc, .slice (some ⟨b, o, none⟩) rn rc, .map (some bm), .bool kp] 108)).alloc (.cells #[.int .i64 p] 3) = W at *
  refine wp_free1 14 13 3 #[.int .i64 0] (by kernel_rfl) (by kernel_rfl) (by kernel_rfl) (by decide) (by decide) rfl ⟨rfl, fun a w => by kernel_rfl⟩ ?_
  intro K hK
  repeat' (first
    | (apply Obl.makes)
    | (apply Obl.val (by decide) rfl; (intro w' hb; have hl := HL.out w' (B2.out.trans (hb.mono B2.out.size)) lo (by omega) (by omega); unfold bk at hl; go_simp; rfl))
    | (apply Obl.val (by decide) rfl; (intro w' hb; have := (F.out.after hb).cell; have := (G.out.after hb).cell; have := ((B2.out.trans (hb.mono B2.out.size)).cell (p := ⟨b, o + p * 2, none⟩) hbw).trans K0.out; go_simp; rfl)))
  apply Obl.nil
  apply hK
  intro B5 w1 hb hBB hB
  simp only [Act.put, List.setIfInBounds_toArray, List.set_cons_zero, List.set_cons_succ, List.drop_succ_cons, List.drop_zero]
  clear hK K
  have F1 := Lib.hid (F.out.after hb); have G1 := Lib.hid (G.out.after hb)
  have HB1 := Lib.hid (nextB B2.out hb)
  have q5 := hB.cell; have r5 := hB.frozen
  have HB5 := Lib.hid hB
  have z1 := G.out.lt; have z2 := hB.lt; have z3 := hb.size
  have gq := (G.out.after hb).cell
  have n1 : ¬ w.heap.size + 1 = B5 := by omega
  have n2 : ¬ B5 = w.heap.size + 1 := by omega
  clear hb hB
  go_wp2_with (first
    | (refine wpList_load_row rfl 108 _ rfl w.heap.size rfl 108 _ (0, 0) _ (F1.out.far (by show w.heap.size ≠ B5; omega) _) Tryz.underlying108 rfl (by kernel_rfl) ?_)
    | (go_at_call 121; refine (rates_c _ _ _ _ _ _ _).mono ?_; rintro e w' ⟨rfl, rfl⟩))
  have gB := ((HB5.out.set 0 (.int .i64 (h p lo).2)).alloc (.cells #[.slice pA pn pc, .slice sA sn sc, .slice (some ⟨b, o, none⟩) rn rc, .map (some bm), .bool kp] 108)).alloc (.cells #[.int .i64 p] 3)
  have gF := ((F1.out.far (p := ⟨B5, 0, none⟩) (by show w.heap.size ≠ B5; omega) (.int .i64 (h p lo).2)).alloc (.cells #[.slice pA pn pc, .slice sA sn sc, .slice (some ⟨b, o, none⟩) rn rc, .map (some bm), .bool kp] 108)).alloc (.cells #[.int .i64 p] 3)
  have gG := ((G1.out.far (p := ⟨B5, 0, none⟩) (by show w.heap.size + 1 ≠ B5; omega) (.int .i64 (h p lo).2)).alloc (.cells #[.slice pA pn pc, .slice sA sn sc, .slice (some ⟨b, o, none⟩) rn rc, .map (some bm), .bool kp] 108)).alloc (.cells #[.int .i64 p] 3)
  have gf := (Has.new' (w1.setCell ⟨B5, 0, none⟩ (.int .i64 (h p lo).2)) 108 #[.slice pA pn pc, .slice sA sn sc, .slice (some ⟨b, o, none⟩) rn rc, .map (some bm), .bool kp] (g := w1.heap.size) (by simp)).alloc (.cells #[.int .i64 p] 3)
  have gp := Has.new' ((w1.setCell ⟨B5, 0, none⟩ (.int .i64 (h p lo).2)).alloc (.cells #[.slice pA pn pc, .slice sA sn sc, .slice (some ⟨b, o, none⟩) rn rc, .map (some bm), .bool kp] 108)) 3 #[.int .i64 p] (g := w1.heap.size + 1) (by simp)
  have hBl : Below w.heap.size w (((w1.setCell ⟨B5, 0, none⟩ (.int .i64 (h p lo).2)).alloc (.cells #[.slice pA pn pc, .slice sA sn sc, .slice (some ⟨b, o, none⟩) rn rc, .map (some bm), .bool kp] 108)).alloc (.cells #[.int .i64 p] 3)) := newB (newB (setB HB1.out (by show w.heap.size ≤ B5; omega) _) _) _
  have hsz : (((w1.setCell ⟨B5, 0, none⟩ (.int .i64 (h p lo).2)).alloc (.cells #[.slice pA pn pc, .slice sA sn sc, .slice (some ⟨b, o, none⟩) rn rc, .map (some bm), .bool kp] 108)).alloc (.cells #[.int .i64 p] 3)).heap.size = w1.heap.size + 1 + 1 := by simp
  clear q5 r5 gq
  generalize ((w1.setCell ⟨B5, 0, none⟩ (.int .i64 (h p lo).2)).alloc (.cells #[.slice pA pn pc, .slice sA sn sc, .slice (some ⟨b, o, none⟩) rn rc, .map (some bm), .bool kp] 108)).alloc (.cells #[.int .i64 p] 3) = Wl at *
  obtain ⟨s1, s2⟩ : Wl.heap.size ≤ w1.heap.size + 1 + 1 ∧ w1.heap.size + 1 + 1 ≤ Wl.heap.size := by omega
  clear hsz
  have hc0 := (hBl.cell (p := ⟨b, o + p * 2, none⟩) hbw).trans K0.out
  have hc1 := (hBl.cell (p := ⟨b, o + p * 2 + 1, none⟩) hbw).trans K1.out
  refine wp_range (α := Rt lo hiR) 134 #[.pointer (some ⟨w1.heap.size, 0, none⟩), .pointer (some ⟨w1.heap.size + 1, 0, none⟩)] rfl (enters_of Tryz.func134 (by kernel_rfl) rfl)
    (rates_stops Fence.wide 2 trivial rfl (by omega) w1.heap.size (w1.heap.size + 1) B5 b o p ⟨pA, sA, some ⟨b, o, none⟩, pn, pc, sn, sc, rn, rc, ps, ss, rs⟩ (.map (some bm)) kp lo hiR (by omega) hprn rfl Wl gf gp (by omega) (by omega) (by omega) hc0 hc1)
    (fun h1 h2 => h1.trans h2) (fun W l o' hl => Kx.putObj W o' hl) (fun _ => rfl)
    (fun pre W => Wl.grownBy W (some B5) ∧ Has W B5 3 #[.int .i64 (maxL (fun x => (h p x).2) (h p lo).2 (pre.map (·.1)))]) ?own ?h0
    (fun x => { tmps := #[.agg #[.slice pA pn pc, .slice sA sn sc, .slice (some ⟨b, o, none⟩) rn rc, .map (some bm), .bool kp], .int .i64 p, .pointer (some ⟨w.heap.size, 0, none⟩), .pointer (some ⟨w.heap.size + 1, 0, none⟩), .int .i64 0, .pointer (some ⟨B5, 0, none⟩), .int .i64 x.1,
      .pointer (some ⟨w.heap.size, 3, none⟩), .map (some bm), .int .i64 p, .pointer (some ⟨w.heap.size, 2, none⟩), .pointer (some ⟨w.heap.size, 2, none⟩), .slice (some ⟨b, o, none⟩) rn rc, .int .i64 p, .pointer (some ⟨b, o + p * 2, none⟩), .pointer (some ⟨b, o + p * 2, none⟩), .int .i64 lo,
      .agg #[.int .i64 p, .int .i64 lo], sv (h p lo), .int .i64 (h p lo).2, .agg #[.slice pA pn pc, .slice sA sn sc, .slice (some ⟨b, o, none⟩) rn rc, .map (some bm), .bool kp], .int .i64 p,
      .func (.func 134) #[] #[.pointer (some ⟨w1.heap.size, 0, none⟩), .pointer (some ⟨w1.heap.size + 1, 0, none⟩)], .int .i64 x.1, undef, undef, undef, undef, undef, undef, undef, undef, undef, undef], defers := [] }) ?assign ?body ?done
  case own =>
    rintro pre A B row ⟨hs1, hs2⟩ hg hr
    refine ⟨grown_two hs1 hg (fun r e => .inr (hr r e).1), (hg.block _ hs2.lt (fun e => ?_)).trans hs2⟩
    have := (hr _ e.symm).1
    omega
  case h0 => exact ⟨grown_refl _ _, gB⟩
  case assign =>
    intro l x W K hK
    gi_wp2
    exact hK
  case body =>
    rintro l pre x W ⟨hg, hcur⟩ hlen
    have E5 := Lib.hid (show maxL (fun x => (h p x).2) (h p lo).2 ((pre ++ [x]).map (·.1)) = max (maxL (fun x => (h p x).2) (h p lo).2 (pre.map (·.1))) (h p x.1).2 by rw [List.map_append]; exact maxL_snoc _ _ _ _)
    generalize maxL (fun x => (h p x).2) (h p lo).2 (pre.map (·.1)) = cur at hcur E5
    have j0 := Lib.hid (grown_has hg gF (by omega))
    have j1 := Lib.hid (grown_has hg gG (by omega))
    have HG := Lib.hid hg; have HCur := Lib.hid hcur
    have hbl := grown_base hBl hg (by omega) (by omega)
    have HBL := Lib.hid hbl
    have z5 := hg.size
    clear hbl hg hcur gB gF gG gf gp hc0 hc1
    refine wpIn_block ?_
    refine wpIn_free 9 (by kernel_rfl) (by kernel_rfl) (by kernel_rfl) (by kernel_rfl) (by decide) ?_
    intro K hK
    repeat' (first
      | (apply Obl.val (by decide) rfl; (intro w' hb; have hl := HL.out w' (HBL.out.trans (hb.mono HBL.out.size)) x.1 x.2.1 x.2.2; unfold bk at hl; go_simp; rfl))
      | (apply Obl.val (by decide) rfl; (intro w' hb; have := (j0.out.after hb).cell; have := (j1.out.after hb).cell; have := (HCur.out.after hb).cell; go_simp; rfl)))
    apply Obl.nil
    apply hK
    intro w2 hb
    simp only [Act.put, List.setIfInBounds_toArray, List.set_cons_zero, List.set_cons_succ, List.drop_succ_cons, List.drop_zero]
    clear hK K
    have HC2 := Lib.hid (HCur.out.after hb)
    have q5 := (HCur.out.after hb).cell; have r5 := (HCur.out.after hb).frozen
    have hb2 := Lib.hid hb
    clear hb
    have hgw := Lib.hid fun (u : Value) => grown_two (grown_below (grown_refl W (some B5)) hb2.out) (grownBy_setCell' w2 B5 u) (fun r e => by cases e; exact .inl rfl)
    have hfin := Lib.hid fun (u : Value) => HC2.out.set 0 u
    go_wp2
    all_goals
      refine ⟨KeepsFrom.of_grownBy (hgw.out _) (fun j e => by cases e; omega), grown_kx z5 (hgw.out _), grown_two HG.out (hgw.out _) (fun r e => by cases e; exact .inl rfl), (hfin.out _).eq (congrArg (fun v => #[Value.int .i64 v]) (Eq.trans ?_ E5.out.symm))⟩
      omega
  case done =>
    rintro D ys W hD hS ⟨hg, hcur⟩ hK
    have hS' : ys.map (·.1) = ratesL lo (ratesN lo hiR) := hS
    have hcur' : Has W B5 3 #[.int .i64 (greatF rs h p)] := by rw [HE.out, ← hS']; exact hcur
    have HG := Lib.hid hg; have HK := Lib.hid hK
    have q5 := hcur'.cell
    have HBL := Lib.hid (grown_base hBl hg (by omega) (by omega))
    clear hg hcur hcur' hK hS hS' gB gF gG gf gp hc0 hc1
    go_wp2
    refine leaves_marks [D] W (by simp) (fun D' hD' => by simp at hD'; subst hD'; exact HK.out) (fun w' y1 y2 y3 y4 y5 => ?_)
    refine ⟨_, results_tmp rfl _ _ _, rfl, ⟨y2.trans HBL.out.os, y3.trans HBL.out.tape, y4.trans HBL.out.output, by rw [y1]; exact HBL.out.size, fun i hi => (y5 i (by simp; omega)).trans (HBL.out.block i hi)⟩⟩
end Go.Proofs
namespace Go.Proofs
open Go.RowKit Go.Shelf Gas
attribute [local go_sem ↓] Go.wp_at_zero Go.wp_at_succ

def exceedsB (ps rs : List Pr) (h : Nat → Int → Pr) (p : Nat) (d : Int) : Bool := decide (greatF rs h p > (ps.getD p (0, 0)).1 + (ps.getD p (0, 0)).2 * d)

theorem wI {x : Int} (h1 : -9223372036854775808 ≤ x) (h2 : x ≤ 9223372036854775807) : IntKind.i64.wrap x = x := by rw [IntKind.wrap_i64]; omega
theorem maxOf_bd {f : Int → Int} {lo : Int} : ∀ n : Nat, (∀ x, lo ≤ x → x < lo + n ∨ x = lo → 0 ≤ f x ∧ f x ≤ 20000) → 0 ≤ maxOf f lo n ∧ maxOf f lo n ≤ 20000
  | 0, h => h lo (by omega) (.inr rfl)
  | n + 1, h => by
    have a := maxOf_bd n (fun x h1 h2 => h x h1 (by omega))
    have b := h (lo + n) (by omega) (.inl (by omega))
    simp only [maxOf]
    omega
theorem greatF_bd {t : Tm} {h : Nat → Int → Pr} (ho : FolOk t h) {p : Nat} (hp : p < t.rs.length) : 0 ≤ greatF t.rs h p ∧ greatF t.rs h p ≤ 20000 := by
  have hr := ho.tok.rate hp
  refine maxOf_bd _ (fun x h1 h2 => ?_)
  have := ho.held p x hp h1 (by unfold ratesN at h2; omega)
  exact ⟨this.2.2.1, this.2.2.2⟩
theorem slope_bd {s d : Int} (hs : 0 ≤ s ∧ s ≤ 400) (hd : 0 ≤ d ∧ d ≤ 100) : 0 ≤ s * d ∧ s * d ≤ 40000 :=
  ⟨Int.mul_nonneg hs.1 hd.1, by have := Int.mul_le_mul hs.2 hd.2 hd.1 (by omega : (0:Int) ≤ 400); omega⟩

set_option maxHeartbeats 1000000 in
theorem exceeds_c (t : Tm) (h : Nat → Int → Pr) (ho : FolOk t h) (bm : Nat) (kp : Bool) (p : Nat) (d : Int) (hp : p < t.ps.length) (hd : 0 ≤ d ∧ d ≤ 100) (w : World) (hi : t.In w) (hm : MapAt w bm (heldF t.rs h)) :
    Calls Tryz.prog 92 #[FolV t bm kp, .int .i64 p, .int .i64 d] w fun e w' => e = .returned (.bool (exceedsB t.ps t.rs h p d)) ∧ Below w.heap.size w w' := by
  have hpl : t.ps.length = t.pn := hi.ps.1
  have hrl : t.rs.length = t.rn := hi.rs.1
  have hnp := ho.tok.np
  have hpr : p < t.rs.length := by omega
  have hpn : (p : Int) < t.pn := by omega
  have hpt := ho.tok.part hp
  have hg := greatF_bd ho hpr
  have HG := Lib.hid fun (w' : World) (hb : Below w.heap.size w w') => greatest_c t h ho bm kp p hpr w' (hi.keep hb) (hm.keep hb)
  have hx := List.getElem?_eq_getElem hp
  obtain ⟨x, hxx⟩ : ∃ x, x = t.ps[p] := ⟨_, rfl⟩
  rw [← hxx] at hx
  have hgd : t.ps.getD p (0, 0) = x := by simp [List.getD_eq_getElem?_getD, hx]
  obtain ⟨b, o, he⟩ := hi.ps.addr (by omega)
  obtain ⟨pA, sA, rA, pn, pc, sn, sc, rn, rc, ps, ss, rs⟩ := t
  obtain ⟨li, sl⟩ := x
  have HE := Lib.hid (show exceedsB ps rs h p d = decide (greatF rs h p > li + sl * d) by simp only at hgd; simp only [exceedsB, hgd])
  simp only [FolV, folC] at *
  generalize greatF rs h p = gr at *
  rw [hgd] at hpt
  have hsd := slope_bd (s := sl) (d := d) ⟨hpt.2.2.1, hpt.2.2.2⟩ hd
  obtain ⟨a0, a1⟩ := hd; obtain ⟨a2, a3⟩ := hg; obtain ⟨a4, a5, a6, a7⟩ := hpt; obtain ⟨a8, a9⟩ := hsd
  subst he
  have hR := Lib.hid ((hi.keep (newB (Below.refl w.heap.size w) (.cells #[.slice (some ⟨b, o, none⟩) pn pc, .slice sA sn sc, .slice rA rn rc, .map (some bm), .bool kp] 108))).ps.range prC_len hx)
  replace hR := Lib.hid (show (w.alloc (.cells #[.slice (some ⟨b, o, none⟩) pn pc, .slice sA sn sc, .slice rA rn rc, .map (some bm), .bool kp] 108)).rangeAt b (o + p * 2) [.int .i64 li, .int .i64 sl] from hR.out)
  clear hi hm ho hx hxx hgd hrl hnp hpr hp hpl
  have F := Lib.hid (Has.new w 108 #[.slice (some ⟨b, o, none⟩) pn pc, .slice sA sn sc, .slice rA rn rc, .map (some bm), .bool kp])
  go_enter Tryz.func92, Tryz.ntmps92
  go_wp2_with (refine wpList_load_mid rfl 77 _ rfl b (o + p * 2) rfl _ _ hR.out Tryz.underlying77 rfl (by kernel_rfl) ?_)
  have B2 := Lib.hid (newB (newB (Below.refl w.heap.size w) (.cells #[.slice (some ⟨b, o, none⟩) pn pc, .slice sA sn sc, .slice rA rn rc, .map (some bm), .bool kp] 108)) (.cells #[.int .i64 li, .int .i64 sl] 77))
  have N := Lib.hid (Has.new' (w.alloc (.cells #[.slice (some ⟨b, o, none⟩) pn pc, .slice sA sn sc, .slice rA rn rc, .map (some bm), .bool kp] 108)) 77 #[.int .i64 li, .int .i64 sl] (g := w.heap.size + 1) (by simp))
  have F2 := Lib.hid (F.out.alloc (.cells #[.int .i64 li, .int .i64 sl] 77))
  generalize (w.alloc (.cells #[.slice (some ⟨b, o, none⟩) pn pc, .slice sA sn sc, .slice rA rn rc, .map (some bm), .bool kp] 108)).alloc (.cells #[.int .i64 li, .int .i64 sl] 77) = W at *
  refine wp_free 11 (by kernel_rfl) (by kernel_rfl) (by kernel_rfl) (by decide) ?_
  intro K hK
  repeat' (first
    | (refine Obl.row (by decide) rfl 108 _ rfl w.heap.size rfl 108 _ _ F2.out Tryz.underlying108 rfl (by kernel_rfl) ?_)
    | (apply Obl.call (by decide) rfl; (intro w' hb; go_simp; exact ⟨rfl, rfl⟩); (intro w' hb; exact HG.out w' (B2.out.trans (hb.mono B2.out.size))))
    | (apply Obl.val (by decide) rfl; (intro w' hb; have := (N.out.after hb).cell; go_simp; rfl)))
  apply Obl.nil
  apply hK
  intro w2 hb
  simp only [Act.put, List.setIfInBounds_toArray, List.set_cons_zero, List.set_cons_succ, List.drop_succ_cons, List.drop_zero]
  clear hK K
  go_wp2
  go_ret
  refine ⟨?_, nextB B2.out hb⟩
  rw [HE.out]
  show Ending.returned (.bool (decide (IntKind.i64.wrap (li + IntKind.i64.wrap (sl * d)) < gr))) = _
  rw [wI (x := sl * d) (by omega) (by omega), wI (by omega) (by omega)]
end Go.Proofs
namespace Go.Proofs
open Go.RowKit Go.Shelf Gas
attribute [local go_sem ↓] Go.wp_at_zero Go.wp_at_succ

def keptTo (ps rs : List Pr) (h : Nat → Int → Pr) (d : Int) (kp : Bool) : Nat → Bool
  | 0 => kp
  | n + 1 => keptTo ps rs h d kp n && !exceedsB ps rs h n d
def enterB (ps rs : List Pr) (h : Nat → Int → Pr) (d : Int) (kp : Bool) : Bool := keptTo ps rs h d kp ps.length

set_option maxHeartbeats 1000000 in
theorem enter_c (t : Tm) (h : Nat → Int → Pr) (ho : FolOk t h) (bm : Nat) (kp : Bool) (d : Int) (hd : 0 ≤ d ∧ d ≤ 100) (w : World) (hi : t.In w) (hm : MapAt w bm (heldF t.rs h)) :
    Calls Tryz.prog 100 #[FolV t bm kp, .int .i64 d] w fun e w' => e = .returned (FolV t bm (enterB t.ps t.rs h d kp)) ∧ Below w.heap.size w w' := by
  have hpl : t.ps.length = t.pn := hi.ps.1
  have HX := Lib.hid fun (w' : World) (hb : Below w.heap.size w w') (p : Nat) (hp : p < t.pn) (k' : Bool) => exceeds_c t h ho bm k' p d (by omega) hd w' (hi.keep hb) (hm.keep hb)
  obtain ⟨hsm, _, _⟩ := ho.tok.small
  obtain ⟨pA, sA, rA, pn, pc, sn, sc, rn, rc, ps, ss, rs⟩ := t
  simp only [FolV, folC] at *
  have HE := Lib.hid (show enterB ps rs h d kp = keptTo ps rs h d kp pn by simp only [enterB, hpl])
  rw [HE.out]
  clear hi hm ho hd hpl
  have F := Lib.hid ((Has.new w 108 #[.slice pA pn pc, .slice sA sn sc, .slice rA rn rc, .map (some bm), .bool kp]).alloc (.cells #[.slice none 0 0, .slice none 0 0, .slice none 0 0, .map none, .bool false] 108))
  have Z := Lib.hid (Has.new' (w.alloc (.cells #[.slice pA pn pc, .slice sA sn sc, .slice rA rn rc, .map (some bm), .bool kp] 108)) 108 #[.slice none 0 0, .slice none 0 0, .slice none 0 0, .map none, .bool false] (g := w.heap.size + 1) (by simp))
  have B2 := Lib.hid (newB (newB (Below.refl w.heap.size w) (.cells #[.slice pA pn pc, .slice sA sn sc, .slice rA rn rc, .map (some bm), .bool kp] 108)) (.cells #[.slice none 0 0, .slice none 0 0, .slice none 0 0, .map none, .bool false] 108))
  go_enter Tryz.func100, Tryz.ntmps100
  go_wp2
  go_loopw [10] (fun v wr => ∃ k : Nat, k ≤ pn ∧ v = .int .i64 k ∧ Below w.heap.size w wr ∧ Has wr w.heap.size 108 #[.slice pA pn pc, .slice sA sn sc, .slice rA rn rc, .map (some bm), .bool (keptTo ps rs h d kp k)] ∧ Has wr (w.heap.size + 1) 108 #[.slice none 0 0, .slice none 0 0, .slice none 0 0, .map none, .bool false]) (fun v _ => pn - (intOf v).toNat)
  case atStart =>
    exact ⟨0, by omega, rfl, B2.out, by exact F.out, Z.out⟩
  case round =>
    obtain ⟨k, hk, rfl, hB, hF, hZ⟩ := hrel
    have HB := Lib.hid hB; have HF := Lib.hid hF; have HZ := Lib.hid hZ
    have hz := hZ.lt
    have hc := hF.cell; have hfr := hF.frozen
    clear hB hF hZ
    by_cases hkn : k < pn
    · have HR := Lib.hid (show keptTo ps rs h d kp (k + 1) = (keptTo ps rs h d kp k && !exceedsB ps rs h k d) from rfl)
      generalize keptTo ps rs h d kp k = kk at *
      cases kk
      · replace HR := Lib.hid (show keptTo ps rs h d kp (k + 1) = false from HR.out)
        go_wp2
        go_roundw
        case rel => exact ⟨k + 1, by omega, by go_num, setB HB.out (by show w.heap.size ≤ w.heap.size; omega) _, (HF.out.set 4 (.bool false)).eq (by rw [HR.out]; rfl), HZ.out.far (by show w.heap.size + 1 ≠ w.heap.size; omega) _⟩
        case measure => simp [intOf]; omega
      · replace HR := Lib.hid (show keptTo ps rs h d kp (k + 1) = !exceedsB ps rs h k d from HR.out)
        go_wp2_with (first
          | (refine wpList_load_row rfl 108 _ rfl w.heap.size rfl 108 _ (0, 0) _ HF.out Tryz.underlying108 rfl (by kernel_rfl) ?_)
          | (go_at_call 92; refine (HX.out _ HB.out k hkn _).mono ?_; rintro e w1 ⟨rfl, hb1⟩; have C1 := Lib.hid (HF.out.after hb1); have c1 := C1.out.cell; have c2 := C1.out.frozen; have c3 := C1.out.lt; have HB1 := Lib.hid (nextB HB.out hb1); have Z1 := Lib.hid (HZ.out.after hb1); clear hb1))
        go_roundw
        case rel => exact ⟨k + 1, by omega, by go_num, setB HB1.out (by show w.heap.size ≤ w.heap.size; omega) _, (C1.out.set 4 _).eq (by rw [HR.out]; rfl), Z1.out.far (by show w.heap.size + 1 ≠ w.heap.size; omega) _⟩
        case measure => simp [intOf]; omega
    · go_wp2_with (first
        | (refine wpList_load_row rfl 108 _ rfl w.heap.size rfl 108 _ (0, 0) _ HF.out Tryz.underlying108 rfl (by kernel_rfl) ?_)
        | (refine wpList_store_all rfl 108 _ _ rfl (w.heap.size + 1) rfl _ rfl 108 _ HZ.out (by kernel_rfl) rfl (by simp [Value.oneCell']) ?_))
      have hke : k = pn := by omega
      subst hke
      exact bodyPost_ret (results_cell_row Tryz.results100 _ _ (w.heap.size + 1) 108 _ (0, 0) _ rfl (HZ.out.setRow _) Tryz.underlying108 rfl (by kernel_rfl)) rfl ⟨rfl, rowB HB.out (by omega) _⟩

theorem run_kept (a b c m k : Value) (w : World) : Sem.run Tryz.prog (Instr.field 108 (.agg #[a, b, c, m, k]) 3) w = .ok k w := by kernel_rfl
theorem safe_c (t : Tm) (h : Nat → Int → Pr) (ho : FolOk t h) (bm : Nat) (kp : Bool) (w : World) (hi : t.In w) (hm : MapAt w bm (heldF t.rs h)) :
    Calls Tryz.prog 60 #[FolV t bm kp] w fun e w' => e = .returned (.bool (enterB t.ps t.rs h 0 kp)) ∧ Below w.heap.size w w' := by
  have HX := Lib.hid fun (w' : World) (hb : Below w.heap.size w w') => enter_c t h ho bm kp 0 (by omega) w' (hi.keep hb) (hm.keep hb)
  obtain ⟨pA, sA, rA, pn, pc, sn, sc, rn, rc, ps, ss, rs⟩ := t
  simp only [FolV, folC] at *
  generalize enterB ps rs h 0 kp = eb at *
  clear hi hm ho
  have F := Lib.hid (Has.new w 108 #[.slice pA pn pc, .slice sA sn sc, .slice rA rn rc, .map (some bm), .bool kp])
  have B1 := Lib.hid (newB (Below.refl w.heap.size w) (.cells #[.slice pA pn pc, .slice sA sn sc, .slice rA rn rc, .map (some bm), .bool kp] 108))
  go_enter Tryz.func60, Tryz.ntmps60
  go_wp2_with (first
    | (go_at_call 100; refine (HX.out _ B1.out).mono ?_; rintro e w1 ⟨rfl, hb1⟩; have HB1 := Lib.hid (nextB B1.out hb1); have hk := run_kept (.slice pA pn pc) (.slice sA sn sc) (.slice rA rn rc) (.map (some bm)) (.bool eb) w1; clear hb1)
    | (refine wpList_load_row rfl 108 _ rfl w.heap.size rfl 108 _ (0, 0) _ F.out Tryz.underlying108 rfl (by kernel_rfl) ?_))
  go_ret
  exact ⟨rfl, HB1.out⟩
end Go.Proofs
namespace Go.Proofs
open Go.RowKit Go.Shelf Gas
attribute [local go_sem ↓] Go.wp_at_zero Go.wp_at_succ

theorem MapAt.ne {w : World} {b g : Nat} {f : Int → Int → Option Pr} {t : TypeId} {cs : Array Value} (h : MapAt w b f) (hg : Has w g t cs) : b ≠ g := by
  rintro rfl
  obtain ⟨es, ck, h1, _⟩ := h.ex
  unfold Has at hg
  rw [h1] at hg; cases hg
def stayH (h : Nat → Int → Pr) (s : St) : Nat → Int → Pr := fun p x => aftP s x (h p x)

set_option maxHeartbeats 1000000 in
theorem stay_c (t : Tm) (h : Nat → Int → Pr) (ho : FolOk t h) (s : St) (hs : SOk s) (bm : Nat) (kp : Bool) (w : World) (hi : t.In w) (hm : MapAt w bm (heldF t.rs h)) :
    Calls Tryz.prog 65 #[FolV t bm kp, s.val] w (IsFol w t (stayH h s) (enterB t.ps t.rs h s.dl kp)) := by
  have HX := Lib.hid fun (w' : World) (hb : Below w.heap.size w w') => enter_c t h ho bm kp s.dl (by have := hs.dl; omega) w' (hi.keep hb) (hm.keep hb)
  have HP := Lib.hid fun (w' : World) (hb : Below w.heap.size w w') => pass_c t h ho s hs bm (enterB t.ps t.rs h s.dl kp) w' (hi.keep hb) (hm.keep hb)
  obtain ⟨pA, sA, rA, pn, pc, sn, sc, rn, rc, ps, ss, rs⟩ := t
  obtain ⟨dl, dh, ml, mh⟩ := s
  simp only [FolV, folC, St.val] at *
  generalize enterB ps rs h dl kp = eb at *
  clear hi hm ho
  have F := Lib.hid (((Has.new w 108 #[.slice pA pn pc, .slice sA sn sc, .slice rA rn rc, .map (some bm), .bool kp]).alloc (.cells #[.int .i64 dl, .int .i64 dh, .int .i64 ml, .int .i64 mh] 80)).alloc (.cells #[.slice none 0 0, .slice none 0 0, .slice none 0 0, .map none, .bool false] 108))
  have S := Lib.hid ((Has.new' (w.alloc (.cells #[.slice pA pn pc, .slice sA sn sc, .slice rA rn rc, .map (some bm), .bool kp] 108)) 80 #[.int .i64 dl, .int .i64 dh, .int .i64 ml, .int .i64 mh] (g := w.heap.size + 1) (by simp)).alloc (.cells #[.slice none 0 0, .slice none 0 0, .slice none 0 0, .map none, .bool false] 108))
  have Z := Lib.hid (Has.new' ((w.alloc (.cells #[.slice pA pn pc, .slice sA sn sc, .slice rA rn rc, .map (some bm), .bool kp] 108)).alloc (.cells #[.int .i64 dl, .int .i64 dh, .int .i64 ml, .int .i64 mh] 80)) 108 #[.slice none 0 0, .slice none 0 0, .slice none 0 0, .map none, .bool false] (g := w.heap.size + 1 + 1) (by simp))
  have B := Lib.hid (newB (newB (newB (Below.refl w.heap.size w) (.cells #[.slice pA pn pc, .slice sA sn sc, .slice rA rn rc, .map (some bm), .bool kp] 108)) (.cells #[.int .i64 dl, .int .i64 dh, .int .i64 ml, .int .i64 mh] 80)) (.cells #[.slice none 0 0, .slice none 0 0, .slice none 0 0, .map none, .bool false] 108))
  go_enter Tryz.func65, Tryz.ntmps65
  go_wp2
  generalize ((w.alloc (.cells #[.slice pA pn pc, .slice sA sn sc, .slice rA rn rc, .map (some bm), .bool kp] 108)).alloc (.cells #[.int .i64 dl, .int .i64 dh, .int .i64 ml, .int .i64 mh] 80)).alloc (.cells #[.slice none 0 0, .slice none 0 0, .slice none 0 0, .map none, .bool false] 108) = W at *
  refine wp_free 6 (by kernel_rfl) (by kernel_rfl) (by kernel_rfl) (by decide) ?_
  intro K hK
  repeat' (first
    | (refine Obl.row (by decide) rfl 108 _ rfl w.heap.size rfl 108 _ _ F.out Tryz.underlying108 rfl (by kernel_rfl) ?_)
    | (refine Obl.row (by decide) rfl 80 _ rfl (w.heap.size + 1) rfl 80 _ _ S.out Tryz.underlying80 rfl (by kernel_rfl) ?_)
    | (apply Obl.call (by decide) rfl; (intro w' hb; go_simp; exact ⟨rfl, rfl⟩); (intro w' hb; exact HX.out w' (B.out.trans (hb.mono B.out.size))))
    | (apply Obl.val (by decide) rfl; (intro w' hb; have := (S.out.after hb).cell; go_simp; rfl)))
  apply Obl.nil
  apply hK
  intro w2 hb
  simp only [Act.put, List.setIfInBounds_toArray, List.set_cons_zero, List.set_cons_succ, List.drop_succ_cons, List.drop_zero]
  clear hK K
  have HB2 := Lib.hid (nextB B.out hb)
  have Z2 := Lib.hid (Z.out.after hb)
  go_wp2_with (first
    | (go_at_call 101; refine (HP.out _ HB2.out).mono ?_; rintro e w3 ⟨b2, rfl, hM, hb3⟩; have HB3 := Lib.hid (nextB HB2.out hb3); have Z3 := Lib.hid (Z2.out.after hb3); have HM := Lib.hid hM; clear hb3 hM)
    | (refine wpList_store_all rfl 108 _ _ rfl (w.heap.size + 1 + 1) rfl _ rfl 108 _ Z3.out (by kernel_rfl) rfl (by simp [Value.oneCell', folC]) ?_))
  exact bodyPost_ret (results_cell_row Tryz.results65 _ _ (w.heap.size + 1 + 1) 108 _ (0, 0) _ rfl (Z3.out.setRow _) Tryz.underlying108 rfl (by kernel_rfl)) rfl ⟨b2, rfl, HM.out.setRow (HM.out.ne Z3.out) _, rowB HB3.out (by omega) _⟩
end Go.Proofs
namespace Go.Proofs
open Go.RowKit Go.Shelf Gas
attribute [local go_sem ↓] Go.wp_at_zero Go.wp_at_succ

abbrev FS := (Nat → Int → Pr) × Bool
def folS (ps rs : List Pr) : FS → List St → FS
  | a, [] => a
  | a, s :: l => folS ps rs (stayH a.1 s, enterB ps rs a.1 s.dl a.2) l
theorem FolOk.stay {t : Tm} {h : Nat → Int → Pr} (ho : FolOk t h) {s : St} (hs : SOk s) : FolOk t (stayH h s) := ho.pass hs
theorem FolOk.folS {t : Tm} : ∀ (l : List St) (a : FS), FolOk t a.1 → (∀ s ∈ l, SOk s) → FolOk t (folS t.ps t.rs a l).1
  | [], a, h, _ => h
  | s :: l, a, h, hl => FolOk.folS l _ (h.stay (hl s (by simp))) (fun x hx => hl x (by simp [hx]))

def IsFolS (w0 : World) (t : Tm) (a : FS) (e : Ending) (w' : World) : Prop := IsFol w0 t a.1 a.2 e w'

set_option maxHeartbeats 1000000 in
theorem follow_c (t : Tm) (h : Nat → Int → Pr) (ho : FolOk t h) (bm : Nat) (kp : Bool) (A : Option Addr) (n c : Nat) (dive : List St) (hn : n ≤ 1000000) (hok : ∀ s ∈ dive, SOk s) (w : World) (hi : t.In w) (hm : MapAt w bm (heldF t.rs h)) (hd : SlOf St.cs 4 w A n dive) :
    Calls Tryz.prog 58 #[FolV t bm kp, .slice A n c] w (IsFolS w t (folS t.ps t.rs (h, kp) dive)) := by
  have HX := Lib.hid fun (w' : World) (hb : Below w.heap.size w w') (h' : Nat → Int → Pr) (ho' : FolOk t h') (s : St) (hs : SOk s) (b' : Nat) (k' : Bool) (hm' : MapAt w' b' (heldF t.rs h')) => stay_c t h' ho' s hs b' k' w' (hi.keep hb) hm'
  have HO := Lib.hid ho; have HOK := Lib.hid hok; have HD := Lib.hid hd; have HM := Lib.hid hm
  have HL := Lib.hid hd.1
  have HNext := Lib.hid fun (h' : Nat → Int → Pr) (ho' : FolOk t h') (s : St) (hs : SOk s) => ho'.stay hs
  obtain ⟨pA, sA, rA, pn, pc, sn, sc, rn, rc, ps, ss, rs⟩ := t
  have HE := Lib.hid (show ∀ a b, a = b → IsFolS w ⟨pA, sA, rA, pn, pc, sn, sc, rn, rc, ps, ss, rs⟩ a = IsFolS w ⟨pA, sA, rA, pn, pc, sn, sc, rn, rc, ps, ss, rs⟩ b from fun _ _ h => by rw [h])
  simp only [FolV, folC] at *
  clear hi hm ho hok hd
  have F := Lib.hid ((Has.new w 108 #[.slice pA pn pc, .slice sA sn sc, .slice rA rn rc, .map (some bm), .bool kp]).alloc (.cells #[.slice none 0 0, .slice none 0 0, .slice none 0 0, .map none, .bool false] 108))
  have Z := Lib.hid (Has.new' (w.alloc (.cells #[.slice pA pn pc, .slice sA sn sc, .slice rA rn rc, .map (some bm), .bool kp] 108)) 108 #[.slice none 0 0, .slice none 0 0, .slice none 0 0, .map none, .bool false] (g := w.heap.size + 1) (by simp))
  have B := Lib.hid (newB (newB (Below.refl w.heap.size w) (.cells #[.slice pA pn pc, .slice sA sn sc, .slice rA rn rc, .map (some bm), .bool kp] 108)) (.cells #[.slice none 0 0, .slice none 0 0, .slice none 0 0, .map none, .bool false] 108))
  go_enter Tryz.func58, Tryz.ntmps58
  go_wp2
  go_loopw [9] (fun v wr => ∃ (k : Nat) (h' : Nat → Int → Pr) (kk : Bool) (b' : Nat), k ≤ n ∧ v = .int .i64 k ∧ Below w.heap.size w wr ∧ FolOk ⟨pA, sA, rA, pn, pc, sn, sc, rn, rc, ps, ss, rs⟩ h' ∧ MapAt wr b' (heldF rs h') ∧ folS ps rs (h, kp) dive = folS ps rs (h', kk) (dive.drop k)
    ∧ Has wr w.heap.size 108 #[.slice pA pn pc, .slice sA sn sc, .slice rA rn rc, .map (some b'), .bool kk] ∧ Has wr (w.heap.size + 1) 108 #[.slice none 0 0, .slice none 0 0, .slice none 0 0, .map none, .bool false]) (fun v _ => n - (intOf v).toNat)
  case atStart =>
    exact ⟨0, h, kp, bm, by omega, rfl, B.out, HO.out, HM.out.keep B.out, rfl, F.out, Z.out⟩
  case round =>
    obtain ⟨k, h', kk, b', hk, rfl, hB, hO, hM, hE, hF, hZ⟩ := hrel
    have HB := Lib.hid hB; have HF := Lib.hid hF; have HZ := Lib.hid hZ; have HO2 := Lib.hid hO; have HM2 := Lib.hid hM; have HE2 := Lib.hid hE
    have hz := hZ.lt
    clear hB hF hZ hO hM hE
    by_cases hkn : k < n
    · have hkl : k < dive.length := by rw [HL.out]; exact hkn
      obtain ⟨b, o, he⟩ := HD.out.addr (by omega)
      have hx := List.getElem?_eq_getElem hkl
      have HS := Lib.hid (HOK.out _ (List.getElem_mem hkl))
      have HDr := Lib.hid (List.drop_eq_getElem_cons hkl)
      obtain ⟨x, hxx⟩ : ∃ x, x = dive[k] := ⟨_, rfl⟩
      rw [← hxx] at hx HS HDr
      subst he
      have hR := Lib.hid ((HD.out.keep HB.out).range St.cs_len hx)
      clear hx hxx
      obtain ⟨dl, dh, ml, mh⟩ := x
      replace hR := Lib.hid (show wr.rangeAt b (o + k * 4) [.int .i64 dl, .int .i64 dh, .int .i64 ml, .int .i64 mh] from hR.out)
      have HXX := Lib.hid fun (w' : World) (hb : Below wr.heap.size wr w') => HX.out w' (HB.out.trans (hb.mono HB.out.size)) h' HO2.out _ HS.out b' kk (HM2.out.keep hb)
      have N := Lib.hid (Has.new wr 80 #[.int .i64 dl, .int .i64 dh, .int .i64 ml, .int .i64 mh])
      have F2 := Lib.hid (HF.out.alloc (.cells #[.int .i64 dl, .int .i64 dh, .int .i64 ml, .int .i64 mh] 80))
      have Z2 := Lib.hid (HZ.out.alloc (.cells #[.int .i64 dl, .int .i64 dh, .int .i64 ml, .int .i64 mh] 80))
      have B2 := Lib.hid (newB (Below.refl wr.heap.size wr) (.cells #[.int .i64 dl, .int .i64 dh, .int .i64 ml, .int .i64 mh] 80))
      simp only [St.val] at *
      go_wp2_with (first
        | (go_at_call 65; refine (HXX.out _ B2.out).mono ?_; rintro e w3 ⟨b2, rfl, hM, hb3⟩; have HM3 := Lib.hid hM; have HB3 := Lib.hid (nextB HB.out (nextB B2.out hb3)); have F3 := Lib.hid (F2.out.after hb3); have Z3 := Lib.hid (Z2.out.after hb3); clear hb3 hM)
        | (refine wpList_load_mid rfl 80 _ rfl b (o + k * 4) rfl _ _ hR.out Tryz.underlying80 rfl (by kernel_rfl) ?_)
        | (refine wpList_load_row rfl 108 _ rfl w.heap.size rfl 108 _ (0, 0) _ F2.out Tryz.underlying108 rfl (by kernel_rfl) ?_)
        | (refine wpList_load_row rfl 80 _ rfl wr.heap.size rfl 80 _ (0, 0) _ N.out Tryz.underlying80 rfl (by kernel_rfl) ?_)
        | (refine wpList_store_all rfl 108 _ _ rfl w.heap.size rfl _ rfl 108 _ F3.out (by kernel_rfl) rfl (by simp [Value.oneCell', folC]) ?_))
      go_roundw
      case rel => exact ⟨k + 1, stayH h' ⟨dl, dh, ml, mh⟩, enterB ps rs h' dl kk, b2, by omega, by go_num, rowB HB3.out (by omega) _, HNext.out h' HO2.out _ HS.out, HM3.out.setRow (HM3.out.ne F3.out) _, HE2.out.trans (by rw [HDr.out]; rfl), F3.out.setRow _, Z3.out.setRow_far (by omega) _⟩
      case measure => simp [intOf]; omega
    · go_wp2_with (first
        | (refine wpList_load_row rfl 108 _ rfl w.heap.size rfl 108 _ (0, 0) _ HF.out Tryz.underlying108 rfl (by kernel_rfl) ?_)
        | (refine wpList_store_all rfl 108 _ _ rfl (w.heap.size + 1) rfl _ rfl 108 _ HZ.out (by kernel_rfl) rfl (by simp [Value.oneCell']) ?_))
      have hke : k = n := by omega
      subst hke
      refine bodyPost_ret (results_cell_row Tryz.results58 _ _ (w.heap.size + 1) 108 _ (0, 0) _ rfl (HZ.out.setRow _) Tryz.underlying108 rfl (by kernel_rfl)) rfl ?_
      rw [HE.out _ _ (HE2.out.trans (by rw [List.drop_eq_nil_of_le (by rw [HL.out]; exact Nat.le_refl _)]; rfl : folS ps rs (h', kk) (dive.drop k) = (h', kk)))]
      exact ⟨b', rfl, HM2.out.setRow (HM2.out.ne HZ.out) _, rowB HB.out (by omega) _⟩
end Go.Proofs
