/-
  Contracts of the specification's Spans and Known hold where table, man and stages are as defined.
-/
import Derived.Test.YtahochgbkhpefaaGreatDoorP13
import Derived.Test.YtahochgbkhpefaaGreatDoorP1
import Derived.Test.YtahochgbkhpefaaGreatDoorP9
namespace Go.Proofs
open Go.RowKit Gas

/-- A function with one value changed. -/
def upd (f : Nat → Pr) (p : Nat) (x : Pr) : Nat → Pr := fun q => if q = p then x else f q
theorem upd_at (f : Nat → Pr) (p : Nat) (x : Pr) : upd f p x p = x := by simp [upd]
theorem upd_upd (f : Nat → Pr) (p : Nat) (x y : Pr) : upd (upd f p x) p y = upd f p y := by funext q; unfold upd; split <;> rfl
/-- Whether a body's part is another one than that of the body before. -/
def freshB (pv : Option Int) (p : Int) : Bool := match pv with | none => true | some q => decide (q ≠ p)
def spS (f : Nat → Pr) (fresh : Bool) (b : Bd) : Nat → Pr := upd f b.p.toNat (if fresh then (b.lo, b.hi) else (min (f b.p.toNat).1 b.lo, max (f b.p.toNat).2 b.hi))
/-- The spans of all parts, body by body. -/
def spF : List Bd → Option Int → (Nat → Pr) → Nat → Pr
  | [], _, f => f
  | b :: l, pv, f => spF l (some b.p) (spS f (freshB pv b.p) b)
def prevO (xs : List Bd) : Nat → Option Int
  | 0 => none
  | k + 1 => xs[k]?.map (·.p)
def lastP (xs : List Bd) (pv : Option Int) : Option Int := match xs.getLast? with | none => pv | some b => some b.p
theorem lastP_cons (b : Bd) (l : List Bd) (pv : Option Int) : lastP (b :: l) pv = lastP l (some b.p) := by
  cases l with
  | nil => rfl
  | cons c l => simp [lastP, List.getLast?_cons]
theorem lastP_snoc (xs : List Bd) (b : Bd) (pv : Option Int) : lastP (xs ++ [b]) pv = some b.p := by simp [lastP]
theorem spF_append : ∀ (xs ys : List Bd) (pv : Option Int) (f : Nat → Pr), spF (xs ++ ys) pv f = spF ys (lastP xs pv) (spF xs pv f)
  | [], ys, pv, f => rfl
  | b :: l, ys, pv, f => by
    show spF (l ++ ys) (some b.p) (spS f (freshB pv b.p) b) = _
    rw [spF_append l ys, lastP_cons]; rfl
theorem bodiesK_last (h : Nat → Int → Pr) (k : Nat) (lo : Int) (n : Nat) (pv : Option Int) : lastP (bodiesK h k lo (n + 1)) pv = some (k : Int) := by
  rw [bodiesK_succ, lastP_snoc]
theorem minOf_one (g : Int → Int) (lo : Int) : minOf g lo 1 = g lo := by simp [minOf]
theorem maxOf_one (g : Int → Int) (lo : Int) : maxOf g lo 1 = g lo := by simp [maxOf]
theorem spF_bodiesK (h : Nat → Int → Pr) (k : Nat) (lo : Int) (pv : Option Int) (f : Nat → Pr) (hp : freshB pv k = true) : ∀ n : Nat, spF (bodiesK h k lo (n + 1)) pv f = upd f k (minOf (fun x => (h k x).1) lo (n + 1), maxOf (fun x => (h k x).2) lo (n + 1))
  | 0 => by
    simp [bodiesK, ratesL, spF, spS, hp, minOf_one, maxOf_one]
  | n + 1 => by
    rw [bodiesK_succ, spF_append, spF_bodiesK h k lo pv f hp n, bodiesK_last]
    simp [spF, spS, freshB, upd_at, upd_upd]
    rfl
theorem lastP_bodiesTo {rs : List Pr} (hr : ∀ k, k < rs.length → (rs.getD k (0, 0)).1 ≤ (rs.getD k (0, 0)).2) (h : Nat → Int → Pr) (k : Nat) (hk : k < rs.length) : lastP (bodiesTo rs h (k + 1)) none = some (k : Int) := by
  have e : ∃ n, ratesN (rs.getD k (0, 0)).1 (rs.getD k (0, 0)).2 = n + 1 := ⟨ratesN (rs.getD k (0, 0)).1 (rs.getD k (0, 0)).2 - 1, by have := hr k hk; unfold ratesN; omega⟩
  obtain ⟨n, e⟩ := e
  rw [bodiesTo, e, bodiesK_succ, ← List.append_assoc, lastP_snoc]
theorem spF_bodiesTo {rs : List Pr} (hr : ∀ k, k < rs.length → (rs.getD k (0, 0)).1 ≤ (rs.getD k (0, 0)).2) (h : Nat → Int → Pr) (f : Nat → Pr) : ∀ k, k ≤ rs.length → spF (bodiesTo rs h k) none f = fun q => if q < k then (leastF rs h q, greatF rs h q) else f q
  | 0, _ => by funext q; simp [bodiesTo, spF]
  | k + 1, hk => by
    have e : ∃ n, ratesN (rs.getD k (0, 0)).1 (rs.getD k (0, 0)).2 = n + 1 := ⟨ratesN (rs.getD k (0, 0)).1 (rs.getD k (0, 0)).2 - 1, by have := hr k (by omega); unfold ratesN; omega⟩
    obtain ⟨n, e⟩ := e
    have hf : freshB (lastP (bodiesTo rs h k) none) (k : Int) = true := by
      cases k with
      | zero => rfl
      | succ k => rw [lastP_bodiesTo hr h k (by omega)]; simp [freshB]; omega
    rw [bodiesTo, spF_append, spF_bodiesTo hr h f k (by omega), e, spF_bodiesK h k _ _ _ hf]
    funext q
    unfold upd
    by_cases hq : q = k
    · subst hq; rw [if_pos rfl, if_pos (by omega)]; unfold leastF greatF; rw [e]
    · rw [if_neg hq]
      by_cases hq2 : q < k
      · simp [hq2, show q < k + 1 by omega]
      · simp [hq2, show ¬ q < k + 1 by omega]
theorem spF_drop (xs : List Bd) (k : Nat) (h : k < xs.length) (f : Nat → Pr) : spF (xs.drop k) (prevO xs k) f = spF (xs.drop (k + 1)) (prevO xs (k + 1)) (spS f (freshB (prevO xs k) xs[k].p) xs[k]) := by
  rw [List.drop_eq_getElem_cons h]
  show spF _ (some xs[k].p) _ = _
  simp [prevO, List.getElem?_eq_getElem h]
theorem spF_len (xs : List Bd) (k : Nat) (h : xs.length ≤ k) (pv : Option Int) (f : Nat → Pr) : spF (xs.drop k) pv f = f := by rw [List.drop_eq_nil_of_le h]; rfl
end Go.Proofs
namespace Go.Proofs
open Go.RowKit Go.Shelf Gas
attribute [local go_sem ↓] Go.wp_at_zero Go.wp_at_succ

/-- A block of pairs. -/
structure RowC (cur : Array Value) (f : Nat → Pr) (n : Nat) : Prop where
  size : cur.size = n * 2
  get : ∀ p, p < n → cur[p * 2]? = some (.int .i64 (f p).1) ∧ cur[p * 2 + 1]? = some (.int .i64 (f p).2)
theorem RowC.over {cur : Array Value} {f : Nat → Pr} {n p : Nat} (h : RowC cur f n) (hp : p < n) (x : Pr) : RowC (over cur (p * 2) #[.int .i64 x.1, .int .i64 x.2]) (upd f p x) n := by
  have hs : p * 2 + 2 ≤ cur.size := by rw [h.size]; omega
  rw [over_two _ _ _ _ hs]
  refine ⟨by simp [h.size], fun q hq => ?_⟩
  by_cases e : q = p
  · subst e
    rw [upd_at]
    simp [Array.getElem?_setIfInBounds]
    omega
  · have e1 : upd f p x q = f q := by simp [upd, e]
    rw [e1, Array.getElem?_setIfInBounds, if_neg (by omega), Array.getElem?_setIfInBounds, if_neg (by omega), Array.getElem?_setIfInBounds, if_neg (by omega), Array.getElem?_setIfInBounds, if_neg (by omega)]
    exact h.get q hq
theorem RowC.made (n : Nat) (hn : n ≤ 3) : RowC (madeCells #[.int .i64 0, .int .i64 0] (n * 2)) (fun _ => (0, 0)) n := by
  refine ⟨size_madeCells _ _, fun p hp => ?_⟩
  have hn' : n = 1 ∨ n = 2 ∨ n = 3 := by omega
  have hp' : p = 0 ∨ p = 1 ∨ p = 2 := by omega
  rcases hn' with rfl | rfl | rfl <;> rcases hp' with rfl | rfl | rfl <;> first | omega | exact ⟨by kernel_rfl, by kernel_rfl⟩
theorem RowC.row {w : World} {D : Nat} {cur : Array Value} {f : Nat → Pr} {n : Nat} (hg : Has w D 24 cur) (h : RowC cur f n) : RowOf prC 2 w D 24 n ((List.range n).map f) := by
  refine RowOf.of_pairs hg (by simp) fun j x hx => ?_
  rw [List.getElem?_map] at hx
  by_cases hj : j < n
  · rw [List.getElem?_range hj] at hx
    simp at hx
    subst hx
    exact h.get j hj
  · rw [List.getElem?_eq_none (by simp; omega)] at hx
    simp at hx
theorem RowC.sz {cur : Array Value} {f : Nat → Pr} {n p : Nat} (h : RowC cur f n) (hp : p < n) : p * 2 + 2 ≤ cur.size := by rw [h.size]; omega

set_option maxHeartbeats 2000000 in
set_option maxRecDepth 50000 in
theorem refSpans_c (pA sA A : Option Addr) (pn pc sn sc n c : Nat) (xs : List Bd) (hn : n ≤ 10000000) (hpn : pn ≤ 3) (hok : ∀ b ∈ xs, BdOk pn b) (w : World) (hx : SlOf Bd.cs 4 w A n xs) :
    Calls Tryz.prog 88 #[.agg #[.slice pA pn pc, .slice sA sn sc], .slice A n c] w (IsSpans w pn ((List.range pn).map (spF xs none fun _ => (0, 0)))) := by
  have HX := Lib.hid hx; have HN := Lib.hid hx.1; have HOK := Lib.hid hok
  have hln := hx.1
  clear hx hok
  have hmk := make51 pn (by omega)
  have B0 := Lib.hid (newB (newB (Below.refl w.heap.size w) (.cells #[.slice pA pn pc, .slice sA sn sc] 50)) (.cells (madeCells #[.int .i64 0, .int .i64 0] (pn * 2)) 24))
  have Z0 := Lib.hid (Has.new' (w.alloc (.cells #[.slice pA pn pc, .slice sA sn sc] 50)) 24 (madeCells #[.int .i64 0, .int .i64 0] (pn * 2)) (g := w.heap.size + 1) (by simp))
  have R0 := Lib.hid (RowC.made pn hpn)
  go_enter Tryz.func88, Tryz.ntmps88
  go_wp2
  generalize (w.alloc (.cells #[.slice pA pn pc, .slice sA sn sc] 50)).alloc (.cells (madeCells #[.int .i64 0, .int .i64 0] (pn * 2)) 24) = W at *
  generalize madeCells #[.int .i64 0, .int .i64 0] (pn * 2) = mc at *
  clear hmk
  go_loopw [6] (fun v wr => ∃ (k : Nat) (f : Nat → Pr) (cur : Array Value), k ≤ n ∧ v = .int .i64 k ∧ Below w.heap.size w wr ∧ Has wr (w.heap.size + 1) 24 cur ∧ RowC cur f pn ∧ spF xs none (fun _ => (0, 0)) = spF (xs.drop k) (prevO xs k) f) (fun v _ => n - (intOf v).toNat)
  case atStart => exact ⟨0, fun _ => (0, 0), mc, by omega, rfl, B0.out, Z0.out, R0.out, by simp [prevO]⟩
  case round =>
    obtain ⟨k, f, cur, hk, rfl, hB, hZ, hR, hE⟩ := hrel
    have HB := Lib.hid hB; have HZ := Lib.hid hZ; have HRC := Lib.hid hR; have HE := Lib.hid hE
    clear hB hZ hR hE R0 Z0 B0
    by_cases hkn : k < n
    · have hkl : k < xs.length := by omega
      have HDr := Lib.hid (spF_drop xs k hkl f)
      obtain ⟨b, o, he⟩ := HX.out.addr (by omega)
      have hx := List.getElem?_eq_getElem hkl
      have hbo := HOK.out _ (List.getElem_mem hkl)
      obtain ⟨x, hxx⟩ : ∃ x, x = xs[k] := ⟨_, rfl⟩
      rw [← hxx] at hx hbo HDr
      obtain ⟨bp, br, blo, bhi⟩ := x
      obtain ⟨⟨q0, q1⟩, _, _, _, _, _⟩ := hbo
      simp only at q0 q1
      obtain ⟨p, rfl⟩ := Int.eq_ofNat_of_zero_le q0
      have hpp : p < pn := by omega
      subst he
      have CB := Lib.hid fun (W : World) (hb : Below wr.heap.size wr W) => (show W.cell? ⟨b, o + k * 4, none⟩ = some (.int .i64 p) ∧ W.cell? ⟨b, o + k * 4 + 2, none⟩ = some (.int .i64 blo) ∧ W.cell? ⟨b, o + k * 4 + 2 + 1, none⟩ = some (.int .i64 bhi) from ⟨by simpa using ((HX.out.keep (nextB HB.out hb)).range Bd.cs_len hx) 0 _ rfl, ((HX.out.keep (nextB HB.out hb)).range Bd.cs_len hx) 2 _ rfl, ((HX.out.keep (nextB HB.out hb)).range Bd.cs_len hx) 3 _ rfl⟩)
      have CR := Lib.hid (show wr.rangeAt b (o + k * 4 + 2) [.int .i64 blo, .int .i64 bhi] from fun j u hu => by
        have := (HX.out.keep HB.out).range Bd.cs_len hx (j + 2) u (by simpa [Bd.cs] using hu)
        rwa [show o + k * 4 + (j + 2) = o + k * 4 + 2 + j by omega] at this)
      have hbp := (CB.out wr (Below.refl _ _)).1
      have hbr : b < w.heap.size := HX.out.lt Bd.cs_len (by omega) (by omega)
      clear hx hxx
      have HSZ := Lib.hid (HRC.out.sz hpp)
      cases k with
      | zero =>
        simp only [Nat.zero_mul, Nat.add_zero] at CB CR hbp
        have HC1 := Lib.hid (HRC.out.over hpp (blo, bhi))
        have EF := Lib.hid (show spS f (freshB (prevO xs 0) (p : Int)) ⟨p, br, blo, bhi⟩ = upd (upd f p (blo, bhi)) p (min ((upd f p (blo, bhi)) p).1 blo, max ((upd f p (blo, bhi)) p).2 bhi) by
          rw [show freshB (prevO xs 0) (p : Int) = true from rfl, upd_upd, upd_at]; simp [spS])
        have HZ1 := Lib.hid (HZ.out.setRow (over cur (p * 2) #[.int .i64 blo, .int .i64 bhi]))
        have HB1 := Lib.hid (rowB HB.out (show w.heap.size ≤ w.heap.size + 1 by omega) (over cur (p * 2) #[.int .i64 blo, .int .i64 bhi]))
        go_wp2_with (first
          | (refine wpList_load_mid rfl 24 _ rfl b (o + 2) rfl _ _ CR.out Tryz.underlying24 rfl (by kernel_rfl) ?_)
          | (refine wpList_store_part rfl 24 _ _ rfl (w.heap.size + 1) (p * 2) rfl _ rfl 24 cur HZ.out (by kernel_rfl) HSZ.out (by simp [Value.oneCell']) ?_))
        generalize over cur (p * 2) #[.int .i64 blo, .int .i64 bhi] = cur1 at *
        generalize wr.setRow (w.heap.size + 1) cur1 = wc at *
        generalize upd f p (blo, bhi) = f1 at *
        have c1 := HC1.out.get p hpp
        obtain ⟨x0, x1, hx01⟩ : ∃ x0 x1 : Int, f1 p = (x0, x1) := ⟨_, _, rfl⟩
        rw [hx01] at c1
        have CZ := Lib.hid fun (W : World) (hb : Below wc.heap.size wc W) => (show W.cell? ⟨w.heap.size + 1, p * 2, none⟩ = some (.int .i64 x0) ∧ W.cell? ⟨w.heap.size + 1, p * 2 + 1, none⟩ = some (.int .i64 x1) from ⟨((HZ1.out.after hb).cell _).trans c1.1, ((HZ1.out.after hb).cell _).trans c1.2⟩)
        have CX := Lib.hid fun (W : World) (hb : Below wc.heap.size wc W) => (show W.cell? ⟨b, o, none⟩ = some (.int .i64 p) ∧ W.cell? ⟨b, o + 2, none⟩ = some (.int .i64 blo) ∧ W.cell? ⟨b, o + 2 + 1, none⟩ = some (.int .i64 bhi) from by
          have e := fun i : Nat => (nextB HB1.out hb).cell (p := ⟨b, i, none⟩) hbr
          have e0 := fun i : Nat => HB.out.cell (p := ⟨b, i, none⟩) hbr
          have c := CB.out wr (Below.refl _ _)
          rw [e, e, e, ← e0, ← e0, ← e0]; exact c)
        have HS1 := Lib.hid (HC1.out.sz hpp)
        have EF1 := Lib.hid EF.out
        rw [hx01] at EF1
        clear c1 hx01 hbp
        refine wp_free 27 (by kernel_rfl) (by kernel_rfl) (by kernel_rfl) (by decide) ?_
        intro K hK
        iterate 27 (apply Obl.val (by decide) (by kernel_rfl); (intro w' hb; obtain ⟨z0, z1⟩ := CZ.out w' hb; obtain ⟨b0, b1, b2⟩ := CX.out w' hb; go_simp; rfl))
        apply Obl.nil
        apply hK
        intro w2 hb
        simp only [Act.put, List.setIfInBounds_toArray, List.set_cons_zero, List.set_cons_succ, List.drop_succ_cons, List.drop_zero]
        clear hK K
        have HB2 := Lib.hid (nextB HB1.out hb); have HZ2 := Lib.hid (HZ1.out.after hb)
        clear hb
        go_wp2_with (refine wpList_store_part rfl 24 _ _ rfl (w.heap.size + 1) (p * 2) rfl _ rfl 24 cur1 HZ2.out (by kernel_rfl) HS1.out (by simp [Value.oneCell']) ?_)
        go_roundw
        case rel => exact ⟨0 + 1, upd f1 p (min x0 blo, max x1 bhi), _, by omega, by go_num, rowB HB2.out (by omega) _, HZ2.out.setRow _, HC1.out.over hpp (min x0 blo, max x1 bhi), by rw [HE.out, HDr.out, ← EF1.out]⟩
        case measure => simp [intOf]; omega
      | succ k =>
        have hkl2 : k < xs.length := by omega
        have hx2 := List.getElem?_eq_getElem hkl2
        obtain ⟨y, hyy⟩ : ∃ y, y = xs[k] := ⟨_, rfl⟩
        rw [← hyy] at hx2
        obtain ⟨yp, yr, ylo, yhi⟩ := y
        have HPv := Lib.hid (show prevO xs (k + 1) = some yp by simp only [prevO, hx2]; rfl)
        have hyc : wr.cell? ⟨b, o + k * 4, none⟩ = some (.int .i64 yp) := by simpa using ((HX.out.keep HB.out).range Bd.cs_len hx2) 0 _ rfl
        clear hx2 hyy
        by_cases hq : yp = (p : Int)
        · subst hq
          have EF := Lib.hid (show spS f (freshB (prevO xs (k + 1)) (p : Int)) ⟨p, br, blo, bhi⟩ = upd f p (min (f p).1 blo, max (f p).2 bhi) by
            rw [show freshB (prevO xs (k + 1)) (p : Int) = false by rw [HPv.out]; simp [freshB]]; simp [spS])
          go_wp2
          obtain ⟨wc, rfl⟩ : ∃ wc : World, wc = wr := ⟨_, rfl⟩
          obtain ⟨f1, rfl⟩ : ∃ f1 : Nat → Pr, f1 = f := ⟨_, rfl⟩
          obtain ⟨cur1, rfl⟩ : ∃ cur1 : Array Value, cur1 = cur := ⟨_, rfl⟩
          have HZ1 := HZ; have HC1 := HRC; have HB1 := HB
          have c1 := HC1.out.get p hpp
          obtain ⟨x0, x1, hx01⟩ : ∃ x0 x1 : Int, f1 p = (x0, x1) := ⟨_, _, rfl⟩
          rw [hx01] at c1
          have CZ := Lib.hid fun (W : World) (hb : Below wc.heap.size wc W) => (show W.cell? ⟨w.heap.size + 1, p * 2, none⟩ = some (.int .i64 x0) ∧ W.cell? ⟨w.heap.size + 1, p * 2 + 1, none⟩ = some (.int .i64 x1) from ⟨((HZ1.out.after hb).cell _).trans c1.1, ((HZ1.out.after hb).cell _).trans c1.2⟩)
          have CX := Lib.hid fun (W : World) (hb : Below wc.heap.size wc W) => (show W.cell? ⟨b, o + (k + 1) * 4, none⟩ = some (.int .i64 p) ∧ W.cell? ⟨b, o + (k + 1) * 4 + 2, none⟩ = some (.int .i64 blo) ∧ W.cell? ⟨b, o + (k + 1) * 4 + 2 + 1, none⟩ = some (.int .i64 bhi) from by
            have e := fun i : Nat => (nextB HB1.out hb).cell (p := ⟨b, i, none⟩) hbr
            have e0 := fun i : Nat => HB.out.cell (p := ⟨b, i, none⟩) hbr
            have c := CB.out wc (Below.refl _ _)
            rw [e, e, e, ← e0, ← e0, ← e0]; exact c)
          have HS1 := Lib.hid (HC1.out.sz hpp)
          have EF1 := Lib.hid EF.out
          rw [hx01] at EF1
          clear c1 hx01 hbp
          refine wp_free 27 (by kernel_rfl) (by kernel_rfl) (by kernel_rfl) (by decide) ?_
          intro K hK
          iterate 27 (apply Obl.val (by decide) (by kernel_rfl); (intro w' hb; obtain ⟨z0, z1⟩ := CZ.out w' hb; obtain ⟨b0, b1, b2⟩ := CX.out w' hb; go_simp; rfl))
          apply Obl.nil
          apply hK
          intro w2 hb
          simp only [Act.put, List.setIfInBounds_toArray, List.set_cons_zero, List.set_cons_succ, List.drop_succ_cons, List.drop_zero]
          clear hK K
          have HB2 := Lib.hid (nextB HB1.out hb); have HZ2 := Lib.hid (HZ1.out.after hb)
          clear hb
          go_wp2_with (refine wpList_store_part rfl 24 _ _ rfl (w.heap.size + 1) (p * 2) rfl _ rfl 24 cur1 HZ2.out (by kernel_rfl) HS1.out (by simp [Value.oneCell']) ?_)
          go_roundw
          case rel => exact ⟨(k + 1) + 1, upd f1 p (min x0 blo, max x1 bhi), _, by omega, by go_num, rowB HB2.out (by omega) _, HZ2.out.setRow _, HC1.out.over hpp (min x0 blo, max x1 bhi), by rw [HE.out, HDr.out, ← EF1.out]⟩
          case measure => simp [intOf]; omega
        · have hqb : (yp != (p : Int)) = true := by simpa using hq
          have HC1 := Lib.hid (HRC.out.over hpp (blo, bhi))
          have EF := Lib.hid (show spS f (freshB (prevO xs (k + 1)) (p : Int)) ⟨p, br, blo, bhi⟩ = upd (upd f p (blo, bhi)) p (min ((upd f p (blo, bhi)) p).1 blo, max ((upd f p (blo, bhi)) p).2 bhi) by
            rw [show freshB (prevO xs (k + 1)) (p : Int) = true by rw [HPv.out]; simp [freshB, hq], upd_upd, upd_at]; simp [spS])
          have HZ1 := Lib.hid (HZ.out.setRow (over cur (p * 2) #[.int .i64 blo, .int .i64 bhi]))
          have HB1 := Lib.hid (rowB HB.out (show w.heap.size ≤ w.heap.size + 1 by omega) (over cur (p * 2) #[.int .i64 blo, .int .i64 bhi]))
          go_wp2_with (first
            | (refine wpList_load_mid rfl 24 _ rfl b (o + (k + 1) * 4 + 2) rfl _ _ CR.out Tryz.underlying24 rfl (by kernel_rfl) ?_)
            | (refine wpList_store_part rfl 24 _ _ rfl (w.heap.size + 1) (p * 2) rfl _ rfl 24 cur HZ.out (by kernel_rfl) HSZ.out (by simp [Value.oneCell']) ?_))
          generalize over cur (p * 2) #[.int .i64 blo, .int .i64 bhi] = cur1 at *
          generalize wr.setRow (w.heap.size + 1) cur1 = wc at *
          generalize upd f p (blo, bhi) = f1 at *
          have c1 := HC1.out.get p hpp
          obtain ⟨x0, x1, hx01⟩ : ∃ x0 x1 : Int, f1 p = (x0, x1) := ⟨_, _, rfl⟩
          rw [hx01] at c1
          have CZ := Lib.hid fun (W : World) (hb : Below wc.heap.size wc W) => (show W.cell? ⟨w.heap.size + 1, p * 2, none⟩ = some (.int .i64 x0) ∧ W.cell? ⟨w.heap.size + 1, p * 2 + 1, none⟩ = some (.int .i64 x1) from ⟨((HZ1.out.after hb).cell _).trans c1.1, ((HZ1.out.after hb).cell _).trans c1.2⟩)
          have CX := Lib.hid fun (W : World) (hb : Below wc.heap.size wc W) => (show W.cell? ⟨b, o + (k + 1) * 4, none⟩ = some (.int .i64 p) ∧ W.cell? ⟨b, o + (k + 1) * 4 + 2, none⟩ = some (.int .i64 blo) ∧ W.cell? ⟨b, o + (k + 1) * 4 + 2 + 1, none⟩ = some (.int .i64 bhi) from by
            have e := fun i : Nat => (nextB HB1.out hb).cell (p := ⟨b, i, none⟩) hbr
            have e0 := fun i : Nat => HB.out.cell (p := ⟨b, i, none⟩) hbr
            have c := CB.out wr (Below.refl _ _)
            rw [e, e, e, ← e0, ← e0, ← e0]; exact c)
          have HS1 := Lib.hid (HC1.out.sz hpp)
          have EF1 := Lib.hid EF.out
          rw [hx01] at EF1
          clear c1 hx01 hbp
          refine wp_free 27 (by kernel_rfl) (by kernel_rfl) (by kernel_rfl) (by decide) ?_
          intro K hK
          iterate 27 (apply Obl.val (by decide) (by kernel_rfl); (intro w' hb; obtain ⟨z0, z1⟩ := CZ.out w' hb; obtain ⟨b0, b1, b2⟩ := CX.out w' hb; go_simp; rfl))
          apply Obl.nil
          apply hK
          intro w2 hb
          simp only [Act.put, List.setIfInBounds_toArray, List.set_cons_zero, List.set_cons_succ, List.drop_succ_cons, List.drop_zero]
          clear hK K
          have HB2 := Lib.hid (nextB HB1.out hb); have HZ2 := Lib.hid (HZ1.out.after hb)
          clear hb
          go_wp2_with (refine wpList_store_part rfl 24 _ _ rfl (w.heap.size + 1) (p * 2) rfl _ rfl 24 cur1 HZ2.out (by kernel_rfl) HS1.out (by simp [Value.oneCell']) ?_)
          go_roundw
          case rel => exact ⟨(k + 1) + 1, upd f1 p (min x0 blo, max x1 bhi), _, by omega, by go_num, rowB HB2.out (by omega) _, HZ2.out.setRow _, HC1.out.over hpp (min x0 blo, max x1 bhi), by rw [HE.out, HDr.out, ← EF1.out]⟩
          case measure => simp [intOf]; omega
    · have hke : k = n := by omega
      subst hke
      have HF := Lib.hid (HE.out.trans (spF_len xs k (by omega) _ f))
      go_wp2
      exact bodyPost_ret (results_tmp rfl _ _ _) rfl ⟨_, rfl, by rw [HF.out]; exact HRC.out.row HZ.out, by omega, HB.out⟩
end Go.Proofs
namespace Go.Proofs
open Go.RowKit Go.Shelf Gas
attribute [local go_sem ↓] Go.wp_at_zero Go.wp_at_succ

theorem spans_bodies {rs : List Pr} (hr : rs.all rateB = true) (h : Nat → Int → Pr) (pn : Nat) (hp : rs.length = pn) : (List.range pn).map (spF (bodiesL rs h) none fun _ => (0, 0)) = spansOf rs h pn := by
  unfold bodiesL spansOf
  rw [spF_bodiesTo (fun k hk => (rate_wide hr hk).2.1) h _ _ (Nat.le_refl _)]
  apply List.map_congr_left
  intro p hp'
  have : p < rs.length := by rw [hp]; exact List.mem_range.1 hp'
  simp [this]
/-- The spans of all moments, as the specification finds them. -/
def refL (rs : List Pr) (pn : Nat) : (Nat → Int → Pr) → List St → List (List Pr)
  | h, [] => [spansOf rs h pn]
  | h, s :: l => spansOf rs h pn :: refL rs pn (stayH h s) l
theorem refL_known (ps rs : List Pr) (pn : Nat) : ∀ (l : List St) (h : Nat → Int → Pr) (k : Bool), knownL ps rs pn (h, k) (l ++ [st0]) = refL rs pn h l
  | [], h, k => rfl
  | s :: l, h, k => by
    show spansOf rs h pn :: knownL ps rs pn (stayH h s, enterB ps rs h s.dl k) (l ++ [st0]) = _
    rw [refL_known ps rs pn l]; rfl
theorem bodiesL_len (rs : List Pr) (h h' : Nat → Int → Pr) : (bodiesL rs h).length = (bodiesL rs h').length := by
  have : ∀ k, (bodiesTo rs h k).length = (bodiesTo rs h' k).length := by
    intro k
    induction k with
    | zero => rfl
    | succ k ih => simp only [bodiesTo, List.length_append, bodiesK_len, ih]
  exact this _
theorem owns_sl2 {α : Type} {f : α → List Value} {sz : Nat} {w : World} {base : Nat} {t : TypeId} {A : Option Addr} {n c : Nat} {xs : List α} (hn : xs.length = n) (h : w.ownsRow base t sz (.slice A n c) n (flat f xs)) : SlOf f sz w A n xs := by
  obtain ⟨A', c', e, hs, _⟩ := owns_sl hn h
  cases e; exact hs
theorem Spares.owns {w w' : World} {e : TypeId} (h : Spares w w' e) {base sz n : Nat} {t : TypeId} {v : Value} {xs : List Value} (ho : w.ownsRow base t sz v n xs) (ht : t ≠ e) : w'.ownsRow base t sz v n xs := by
  refine ⟨ho.1, ?_⟩
  rcases ho.2 with h1 | ⟨g, cap, cur, e1, e2, e3, e4⟩
  · exact .inl h1
  · exact .inr ⟨g, cap, cur, e1, e2, h.has (show Has w g t cur from e3) ht, e4⟩
/-- A list of bodies that was made here. -/
def OwB (base m : Nat) (rs : List Pr) (h : Nat → Int → Pr) (A : Option Addr) (c : Nat) (w : World) : Prop := w.ownsRow base 175 4 (.slice A m c) m (flat Bd.cs (bodiesL rs h))
def IsRef (w0 : World) (m : Nat) (xss : List (List Pr)) (e : Ending) (w' : World) : Prop := ∃ v, e = .returned v ∧ Lists w' w0.heap.size v m xss ∧ Below w0.heap.size w0 w'

set_option maxHeartbeats 2000000 in
set_option maxRecDepth 50000 in
theorem refKnown_c (t : Tm) (ht : t.Ok) (htp : t.pn ≤ 3) (A : Option Addr) (n c : Nat) (dive : List St) (hn : n ≤ 100000) (hds : ∀ s ∈ dive, SOk s) (w : World) (hi : t.In w) (hd : SlOf St.cs 4 w A n dive) :
    Calls Tryz.prog 38 #[t.tab, t.man, .slice A n c] w (IsRef w t.pn (refL t.rs t.pn h0 dive)) := by
  have hrl : t.rs.length = t.pn := by rw [hi.rs.1]; exact ht.np
  have hpl : t.ps.length = t.rs.length := by rw [hi.ps.1, hrl]
  have hbl := bodiesTo_len ht.rates h0 t.rs.length (Nat.le_refl _)
  obtain ⟨m, hm⟩ : ∃ m, (bodiesL t.rs h0).length = m := ⟨_, rfl⟩
  have hm2 : m ≤ 39 := by rw [← hm]; unfold bodiesL; omega
  have HM := Lib.hid fun h => (bodiesL_len t.rs h h0).trans hm
  have HBe := Lib.hid fun (W : World) (hb : Below w.heap.size w W) => (refBegin_c t.rA t.rn t.rc t.rs ht.small.r ht.rates W (hi.rs.keep hb)).mono fun e w' (⟨v, h1, h2, h3⟩ : OwnsBd W (bodiesL t.rs h0) e w') => (show ∃ A' c', e = Ending.returned (.slice A' m c') ∧ OwB w.heap.size m t.rs h0 A' c' w' ∧ Below W.heap.size W w' from by
    rw [hm] at h2
    obtain ⟨A', c', e1, hs, _⟩ := owns_sl (by exact hm) h2
    subst e1
    exact ⟨A', c', h1, owns_base hb.size h2, h3⟩)
  have HSp := Lib.hid fun (h : Nat → Int → Pr) (ho : FolOk t h) (A' : Option Addr) (c' : Nat) (W : World) (hs : OwB w.heap.size m t.rs h A' c' W) => (show Calls Tryz.prog 88 #[.agg #[.slice t.pA t.pn t.pc, .slice t.sA t.sn t.sc], .slice A' m c'] W (IsSpans W t.pn (spansOf t.rs h t.pn)) from by
    have := refSpans_c t.pA t.sA A' t.pn t.pc t.sn t.sc m c' (bodiesL t.rs h) (by omega) htp (by rw [← hrl, ← hpl]; exact bodiesL_ok ho hpl) W (owns_sl2 ((bodiesL_len t.rs h h0).trans hm) hs)
    rwa [spans_bodies ht.rates h t.pn hrl] at this)
  have HAf := Lib.hid fun (h : Nat → Int → Pr) (ho : FolOk t h) (s : St) (hs : SOk s) (A' : Option Addr) (c' : Nat) (W : World) (hbW : w.heap.size ≤ W.heap.size) (hsl : OwB w.heap.size m t.rs h A' c' W) =>
    (refAfter_s A' m c' (bodiesL t.rs h) s hs t.ps.length (by omega) (bodiesL_ok ho hpl) W (owns_sl2 ((bodiesL_len t.rs h h0).trans hm) hsl)).mono fun e w' (⟨v, h1, h2, h3⟩ : OwnsBd W ((bodiesL t.rs h).map (aftB s)) e w') => (show ∃ A' c', e = Ending.returned (.slice A' m c') ∧ OwB w.heap.size m t.rs (stayH h s) A' c' w' ∧ Below W.heap.size W w' from by
      rw [map_bodiesL] at h2
      have hm' := (bodiesL_len t.rs (stayH h s) h0).trans hm
      rw [hm'] at h2
      obtain ⟨A', c', e1, hs, _⟩ := owns_sl hm' h2
      subst e1
      exact ⟨A', c', h1, owns_base hbW h2, h3⟩)
  have HNext := Lib.hid fun (h' : Nat → Int → Pr) (ho' : FolOk t h') (s : St) (hs : SOk s) => ho'.stay hs
  have HH0 := Lib.hid (h0_ok ht)
  have HD := Lib.hid hd; have HN := Lib.hid hd.1; have HDS := Lib.hid hds
  have hln := hd.1
  have T0 := Lib.hid ((Has.new w 50 #[.slice t.pA t.pn t.pc, .slice t.sA t.sn t.sc]).alloc (.cells #[.slice t.rA t.rn t.rc] 53))
  have M0 := Lib.hid (Has.new' (w.alloc (.cells #[.slice t.pA t.pn t.pc, .slice t.sA t.sn t.sc] 50)) 53 #[.slice t.rA t.rn t.rc] (g := w.heap.size + 1) (by simp))
  have B0 := Lib.hid (newB (newB (Below.refl w.heap.size w) (.cells #[.slice t.pA t.pn t.pc, .slice t.sA t.sn t.sc] 50)) (.cells #[.slice t.rA t.rn t.rc] 53))
  clear hd hds hi hrl hpl hbl hm ht
  obtain ⟨pA, sA, rA, pn, pc, sn, sc, rn, rc, ps, ss, rs⟩ := t
  simp only [Tm.tab, Tm.man] at *
  go_enter Tryz.func38, Tryz.ntmps38
  go_wp2_with (first
    | (refine wpList_load_row rfl 53 _ rfl (w.heap.size + 1) rfl 53 _ (0, 0) _ M0.out Tryz.underlying53 rfl (by kernel_rfl) ?_)
    | (go_at_call 87; refine (HBe.out _ B0.out).mono ?_; rintro e w1 ⟨A1, c1, rfl, hs1, hb1⟩; have HS1 := Lib.hid hs1; have HB1 := Lib.hid (nextB B0.out hb1); have T1 := Lib.hid (T0.out.after hb1); have ct := T1.out.cell; clear hs1 hb1)
    | (refine wpList_load_row rfl 50 _ rfl w.heap.size rfl 50 _ (0, 0) _ T1.out Tryz.underlying50 rfl (by kernel_rfl) ?_)
    | (go_at_call 88; refine (HSp.out h0 HH0.out A1 c1 w1 HS1.out).mono ?_; rintro e w2 ⟨D, rfl, hRD, hDz, hb2⟩; have HRD := Lib.hid hRD; have HB2 := Lib.hid (nextB HB1.out hb2); have T2 := Lib.hid (T1.out.after hb2); have HS2 := Lib.hid (owns_keep HS1.out hb2); clear hRD hDz hb2))
  have HB3 := Lib.hid (newB HB2.out (.cells #[.slice (some ⟨D, 0, none⟩) pn pn] 51))
  have T3 := Lib.hid (T2.out.alloc (.cells #[.slice (some ⟨D, 0, none⟩) pn pn] 51))
  have HS3 := Lib.hid (show OwB w.heap.size m rs h0 A1 c1 (w2.alloc (.cells #[.slice (some ⟨D, 0, none⟩) pn pn] 51)) from owns_keep HS2.out (newB (Below.refl _ w2) (.cells #[.slice (some ⟨D, 0, none⟩) pn pn] 51)))
  have L3 := Lib.hid (show Lists (w2.alloc (.cells #[.slice (some ⟨D, 0, none⟩) pn pn] 51)) w.heap.size (.slice (some ⟨w2.heap.size, 0, none⟩) 1 1) pn ([] ++ [spansOf rs h0 pn]) from by
    refine ⟨[.slice (some ⟨D, 0, none⟩) pn pn], ?_, fun j xs hx => ?_⟩
    · exact World.ownsRow_lit (base := w.heap.size) (e := 51) (size := 1) w2 #[.slice (some ⟨D, 0, none⟩) pn pn] 1 HB2.out.size (by unfold maxLen; omega) rfl
    · match j, hx with
      | 0, hx =>
        simp at hx; subst hx
        exact ⟨D, rfl, HRD.out.keep (newB (Below.refl _ w2) _)⟩)
  generalize w2.alloc (.cells #[.slice (some ⟨D, 0, none⟩) pn pn] 51) = W3 at *
  generalize w2.heap.size = G at *
  clear HB2 T2 HS2 HRD HB1 T1 HS1 ct T0 M0
  go_loopw [7, 8, 9] (fun v o i wr => ∃ (k : Nat) (h' : Nat → Int → Pr) (A' : Option Addr) (c' : Nat) (done : List (List Pr)), k ≤ n ∧ i = .int .i64 k ∧ v = .slice A' m c' ∧ FolOk ⟨pA, sA, rA, pn, pc, sn, sc, rn, rc, ps, ss, rs⟩ h' ∧ OwB w.heap.size m rs h' A' c' wr ∧ Below w.heap.size w wr ∧ Has wr w.heap.size 50 #[.slice pA pn pc, .slice sA sn sc]
    ∧ refL rs pn h0 dive = done ++ refL rs pn h' (dive.drop k) ∧ done.length = k ∧ Lists wr w.heap.size o pn (done ++ [spansOf rs h' pn])) (fun _ _ i _ => n - (intOf i).toNat)
  case atStart => exact ⟨0, h0, A1, c1, [], by omega, rfl, rfl, HH0.out, HS3.out, HB3.out, T3.out, rfl, rfl, L3.out⟩
  case round =>
    obtain ⟨k, h', A', c', done, hk, rfl, rfl, hO, hS, hB, hT, hE, hDn, hL⟩ := hrel
    have HB := Lib.hid hB; have HO := Lib.hid hO; have HS := Lib.hid hS; have HT := Lib.hid hT; have HE := Lib.hid hE; have HL := Lib.hid hL; have HDn := Lib.hid hDn
    clear hB hO hS hT hE hL hDn HB3 HS3 T3 L3
    by_cases hkn : k < n
    · have hkl : k < dive.length := by omega
      obtain ⟨b, o, he⟩ := HD.out.addr (by omega)
      have hx := List.getElem?_eq_getElem hkl
      have HSO := Lib.hid (HDS.out _ (List.getElem_mem hkl))
      have HDr := Lib.hid (List.drop_eq_getElem_cons hkl)
      obtain ⟨x, hxx⟩ : ∃ x, x = dive[k] := ⟨_, rfl⟩
      rw [← hxx] at hx HSO HDr
      subst he
      have hR := Lib.hid ((HD.out.keep HB.out).range St.cs_len hx)
      clear hx hxx
      have HE2 := Lib.hid (show refL rs pn h0 dive = (done ++ [spansOf rs h' pn]) ++ refL rs pn (stayH h' x) (dive.drop (k + 1)) by rw [HE.out, HDr.out]; simp [refL])
      have HO2 := Lib.hid (HNext.out h' HO.out x HSO.out)
      have HLn := Lib.hid (show (done ++ [spansOf rs h' pn]).length = k + 1 by rw [List.length_append, HDn.out]; rfl)
      have HA2 := Lib.hid (HAf.out h' HO.out x HSO.out)
      have HP2 := Lib.hid (HSp.out (stayH h' x) HO2.out)
      generalize done ++ [spansOf rs h' pn] = done2 at *
      generalize stayH h' x = h2 at *
      obtain ⟨dl, dh, ml, mh⟩ := x
      replace hR := Lib.hid (show wr.rangeAt b (o + k * 4) [.int .i64 dl, .int .i64 dh, .int .i64 ml, .int .i64 mh] from hR.out)
      simp only at *
      have HL1 := Lib.hid (show done2.length ≤ 1000000 by rw [HLn.out]; omega)
      go_wp2_with (first
        | (refine wpList_load_mid rfl 128 _ rfl b (o + k * 4) rfl _ _ hR.out Tryz.underlying128 rfl (by kernel_rfl) ?_)
        | (go_at_call 89; refine (HA2.out A' c' _ HB.out.size HS.out).mono ?_; rintro e w4 ⟨A4, c4, rfl, hs4, hb4⟩; have HS4 := Lib.hid hs4; have HB4 := Lib.hid (nextB HB.out hb4); have T4 := Lib.hid (HT.out.after hb4); have L4 := Lib.hid (HL.out.keep hb4); clear hs4 hb4)
        | (refine wpList_load_row rfl 50 _ rfl w.heap.size rfl 50 _ (0, 0) _ T4.out Tryz.underlying50 rfl (by kernel_rfl) ?_)
        | (go_at_call 88; refine (HP2.out A4 c4 _ HS4.out).mono ?_; rintro e w5 ⟨D5, rfl, hRD, hDz, hb5⟩; have HRD5 := Lib.hid (hRD.keep (newB (Below.refl _ w5) (.cells #[.slice (some ⟨D5, 0, none⟩) pn pn] 51))); have hb6 := newB hb5 (.cells #[.slice (some ⟨D5, 0, none⟩) pn pn] 51); have HB5 := Lib.hid (nextB HB4.out hb6); have T5 := Lib.hid (T4.out.after hb6); have HS5 := Lib.hid (owns_keep HS4.out hb6); have L5 := Lib.hid (L4.out.keep hb6); clear hRD hDz hb5 hb6)
        | (at_builtin; refine wpList_app71 rfl _ _ rfl w.heap.size u8 pn done2 rfl L5.out HL1.out w5.heap.size D5 rfl (Has.new w5 51 _) _ HRD5.out HB5.out.size ?_; intro v6 w6 hl6 hb6 hsp; have HL6 := Lib.hid hl6; have HB6 := Lib.hid (HB5.out.trans hb6); have T6 := Lib.hid (hsp.has T5.out (by decide)); have HS6 := Lib.hid (show OwB w.heap.size m rs h2 A4 c4 w6 from hsp.owns HS5.out (by decide)); clear hl6 hb6 hsp))
      go_roundw
      case rel => exact ⟨k + 1, h2, A4, c4, done2, by omega, by go_num, rfl, HO2.out, HS6.out, HB6.out, T6.out, HE2.out, HLn.out, HL6.out⟩
      case measure => simp [intOf]; omega
    · have hke : k = n := by omega
      subst hke
      have HEq := Lib.hid (show refL rs pn h0 dive = done ++ [spansOf rs h' pn] by rw [HE.out, List.drop_eq_nil_of_le (by omega)]; rfl)
      go_wp2
      exact bodyPost_ret (results_tmp rfl _ _ _) rfl ⟨_, rfl, by rw [HEq.out]; exact HL.out, HB.out⟩
end Go.Proofs
