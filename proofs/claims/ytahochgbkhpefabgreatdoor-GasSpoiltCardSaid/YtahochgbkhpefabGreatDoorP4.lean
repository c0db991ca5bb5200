/-
  Contracts of Known and Limit hold at every table, man and dive of moderate size.
-/
import Derived.Test.YtahochgbkhpefabGreatDoorP3
import Derived.Laws.MakeOwn
import Derived.Lib.AppendZeros
import Derived.Laws.AppendOwnNone
import Derived.LoopN
namespace Go.Proofs
open Go.RowKit Go.Shelf Gas
attribute [local go_sem ↓] Go.wp_at_zero Go.wp_at_succ

theorem SlOf.of_pairs {w : World} {D : Nat} {t : TypeId} {cs : Array Value} {n : Nat} {xs : List Pr} (hg : Has w D t cs) (hl : xs.length = n) (hc : ∀ (j : Nat) x, xs[j]? = some x → cs[j * 2]? = some (.int .i64 x.1) ∧ cs[j * 2 + 1]? = some (.int .i64 x.2)) :
    SlOf prC 2 w (some ⟨D, 0, none⟩) n xs := by
  refine ⟨hl, by rw [flat_len prC_len, hl], fun _ => ⟨D, 0, rfl, fun j u hu => ?_⟩⟩
  have hj : j < xs.length * 2 := by rw [← flat_len (sz := 2) prC_len]; exact (List.getElem?_eq_some_iff.1 hu).1
  have hx := List.getElem?_eq_getElem (show j / 2 < xs.length by omega)
  rw [Nat.zero_add, hg.cell j]
  obtain ⟨h1, h2⟩ := hc _ _ hx
  rcases Nat.mod_two_eq_zero_or_one j with h | h
  · have := flat_at prC_len xs (j / 2) _ hx 0 _ rfl
    rw [show j / 2 * 2 + 0 = j by omega, hu] at this
    rw [show j = j / 2 * 2 by omega, h1]; exact this.symm
  · have := flat_at prC_len xs (j / 2) _ hx 1 _ rfl
    rw [show j / 2 * 2 + 1 = j by omega, hu] at this
    rw [show j = j / 2 * 2 + 1 by omega, h2]; exact this.symm

/-- A row at the beginning of a block: its first n things. -/
def RowOf {α : Type} (f : α → List Value) (_ : Nat) (w : World) (g : Nat) (t : TypeId) (n : Nat) (xs : List α) : Prop := ∃ cur, Has w g t cur ∧ xs.length = n ∧ ∀ (j : Nat) u, (flat f xs)[j]? = some u → cur[j]? = some u
section
variable {α : Type} {f : α → List Value} {sz : Nat} {w w' : World} {g : Nat} {t : TypeId} {n : Nat} {xs : List α}
theorem RowOf.sl (hf : ∀ x, (f x).length = sz) (h : RowOf f sz w g t n xs) : SlOf f sz w (some ⟨g, 0, none⟩) n xs := by
  obtain ⟨cur, h1, h2, h3⟩ := h
  exact ⟨h2, by rw [flat_len hf, h2], fun _ => ⟨g, 0, rfl, fun j u hu => by rw [Nat.zero_add, h1.cell j]; exact h3 j u hu⟩⟩
theorem RowOf.same (h : RowOf f sz w g t n xs) (he : w'.heap[g]? = w.heap[g]?) : RowOf f sz w' g t n xs := by
  obtain ⟨cur, h1, h2, h3⟩ := h
  exact ⟨cur, he.trans h1, h2, h3⟩
theorem RowOf.lt (h : RowOf f sz w g t n xs) : g < w.heap.size := by
  obtain ⟨cur, h1, h2, h3⟩ := h
  exact h1.lt
theorem RowOf.keep (h : RowOf f sz w g t n xs) (hb : Below w.heap.size w w') : RowOf f sz w' g t n xs := h.same (hb.block g h.lt)
theorem RowOf.ne (h : RowOf f sz w g t n xs) {k : Nat} {t' : TypeId} {cs : Array Value} (hk : Has w k t' cs) (ht : t ≠ t') : g ≠ k := by
  rintro rfl
  obtain ⟨cur, h1, h2, h3⟩ := h
  unfold Has at h1 hk
  rw [h1] at hk; cases hk; exact ht rfl
end
theorem RowOf.of_pairs {w : World} {D : Nat} {t : TypeId} {cs : Array Value} {n : Nat} {xs : List Pr} (hg : Has w D t cs) (hl : xs.length = n) (hc : ∀ (j : Nat) x, xs[j]? = some x → cs[j * 2]? = some (.int .i64 x.1) ∧ cs[j * 2 + 1]? = some (.int .i64 x.2)) :
    RowOf prC 2 w D t n xs := by
  refine ⟨cs, hg, hl, fun j u hu => ?_⟩
  obtain ⟨b, o, e, h⟩ := (SlOf.of_pairs (n := n) hg hl hc).2.2 (by have := (List.getElem?_eq_some_iff.1 hu).1; rw [flat_len (sz := 2) prC_len] at this; omega)
  cases e
  have := h j u hu
  rw [Nat.zero_add, hg.cell j] at this
  exact this
def spansOf (rs : List Pr) (h : Nat → Int → Pr) (n : Nat) : List Pr := (List.range n).map fun p => (leastF rs h p, greatF rs h p)
theorem spansOf_get {rs : List Pr} {h : Nat → Int → Pr} {n j : Nat} {x : Pr} (hx : (spansOf rs h n)[j]? = some x) : j < n ∧ x = (leastF rs h j, greatF rs h j) := by
  simp only [spansOf, List.getElem?_map] at hx
  by_cases hj : j < n
  · rw [List.getElem?_range hj] at hx
    simp at hx
    exact ⟨hj, hx.symm⟩
  · rw [List.getElem?_eq_none (by simp; omega)] at hx
    simp at hx
def IsSpans (w0 : World) (n : Nat) (xs : List Pr) (e : Ending) (w' : World) : Prop := ∃ D, e = .returned (.slice (some ⟨D, 0, none⟩) n n) ∧ RowOf prC 2 w' D 43 n xs ∧ w0.heap.size ≤ D ∧ Below w0.heap.size w0 w'

theorem info24 : ∃ i, Tryz.prog.info? 43 = some i ∧ i.zero = some (.agg #[.int .i64 0, .int .i64 0]) ∧ i.bytes = 16 ∧ i.size = 2 := by
  have h : (Tryz.prog.info? 43).isSome = true := by kernel_rfl
  exact ⟨(Tryz.prog.info? 43).get h, (Option.some_get _).symm, by kernel_rfl, by kernel_rfl, by kernel_rfl⟩
theorem make51 (n : Nat) (hn : n ≤ 1000000) (w : World) : (Instr.makeSlice 26 (.int .i64 (n : Int)) (.int .i64 (n : Int))).run Tryz.prog w = .ok (.slice (some ⟨w.heap.size, 0, none⟩) n n) (w.alloc (.cells (madeCells #[.int .i64 0, .int .i64 0] (n * 2)) 43)) := by
  obtain ⟨i, hi, hz, hb, hs⟩ := info24
  have := run_make (P := Tryz.prog) w 26 43 i _ (by kernel_rfl) hi hz .i64 .i64 n n (by omega) (by omega) (by rw [hb]; omega) (by omega)
  simp only [hs, Int.toNat_natCast] at this
  exact this

set_option maxHeartbeats 1000000 in
theorem known_c (t : Tm) (h : Nat → Int → Pr) (ho : FolOk t h) (bm : Nat) (kp : Bool) (w : World) (hi : t.In w) (hm : MapAt w bm (heldF t.rs h)) :
    Calls Tryz.prog 78 #[FolV t bm kp] w (IsSpans w t.pn (spansOf t.rs h t.pn)) := by
  have hpl : t.ps.length = t.pn := hi.ps.1
  have hrl : t.rs.length = t.rn := hi.rs.1
  have hnp := ho.tok.np
  have HL := Lib.hid fun (w' : World) (hb : Below w.heap.size w w') (p : Nat) (hp : p < t.pn) => least_c t h ho bm kp p (by omega) w' (hi.keep hb) (hm.keep hb)
  have HG := Lib.hid fun (w' : World) (hb : Below w.heap.size w w') (p : Nat) (hp : p < t.pn) => greatest_c t h ho bm kp p (by omega) w' (hi.keep hb) (hm.keep hb)
  obtain ⟨hsm, _, _⟩ := ho.tok.small
  obtain ⟨pA, sA, rA, pn, pc, sn, sc, rn, rc, ps, ss, rs⟩ := t
  simp only [FolV, folC] at *
  clear hi hm ho hpl hrl hnp
  have hmk := make51 pn hsm
  have F := Lib.hid ((Has.new' (w.alloc (.cells #[.slice pA pn pc, .slice sA sn sc, .slice rA rn rc, .map (some bm), .bool kp] 108)) 158 #[.func (.func 109) #[(.agg #[.slice pA pn pc, .slice sA sn sc, .slice rA rn rc, .map (some bm), .bool kp])] #[], .func (.func 110) #[(.agg #[.slice pA pn pc, .slice sA sn sc, .slice rA rn rc, .map (some bm), .bool kp])] #[]] (g := w.heap.size + 1) (by simp)).alloc (.cells (madeCells #[.int .i64 0, .int .i64 0] (pn * 2)) 43))
  have Z := Lib.hid (Has.new' ((w.alloc (.cells #[.slice pA pn pc, .slice sA sn sc, .slice rA rn rc, .map (some bm), .bool kp] 108)).alloc (.cells #[.func (.func 109) #[(.agg #[.slice pA pn pc, .slice sA sn sc, .slice rA rn rc, .map (some bm), .bool kp])] #[], .func (.func 110) #[(.agg #[.slice pA pn pc, .slice sA sn sc, .slice rA rn rc, .map (some bm), .bool kp])] #[]] 158)) 43 (madeCells #[.int .i64 0, .int .i64 0] (pn * 2)) (g := w.heap.size + 1 + 1) (by simp))
  have B := Lib.hid (newB (newB (newB (Below.refl w.heap.size w) (.cells #[.slice pA pn pc, .slice sA sn sc, .slice rA rn rc, .map (some bm), .bool kp] 108)) (.cells #[.func (.func 109) #[(.agg #[.slice pA pn pc, .slice sA sn sc, .slice rA rn rc, .map (some bm), .bool kp])] #[], .func (.func 110) #[(.agg #[.slice pA pn pc, .slice sA sn sc, .slice rA rn rc, .map (some bm), .bool kp])] #[]] 158)) (.cells (madeCells #[.int .i64 0, .int .i64 0] (pn * 2)) 43))
  go_enter Tryz.func78, Tryz.ntmps78
  go_wp2
  generalize ((w.alloc (.cells #[.slice pA pn pc, .slice sA sn sc, .slice rA rn rc, .map (some bm), .bool kp] 108)).alloc (.cells #[.func (.func 109) #[(.agg #[.slice pA pn pc, .slice sA sn sc, .slice rA rn rc, .map (some bm), .bool kp])] #[], .func (.func 110) #[(.agg #[.slice pA pn pc, .slice sA sn sc, .slice rA rn rc, .map (some bm), .bool kp])] #[]] 158)).alloc (.cells (madeCells #[.int .i64 0, .int .i64 0] (pn * 2)) 43) = W at *
  generalize Value.agg #[.slice pA pn pc, .slice sA sn sc, .slice rA rn rc, .map (some bm), .bool kp] = fv at *
  have HSZ := Lib.hid (size_madeCells #[.int .i64 0, .int .i64 0] (pn * 2))
  generalize madeCells #[.int .i64 0, .int .i64 0] (pn * 2) = mc at *
  clear hmk
  go_loopw [18] (fun v wr => ∃ (k : Nat) (cur : Array Value), k ≤ pn ∧ v = .int .i64 k ∧ Below w.heap.size w wr ∧ Has wr (w.heap.size + 1) 158 #[.func (.func 109) #[fv] #[], .func (.func 110) #[fv] #[]] ∧ Has wr (w.heap.size + 1 + 1) 43 cur ∧ cur.size = pn * 2
    ∧ ∀ j, j < k → cur[j * 2]? = some (.int .i64 (leastF rs h j)) ∧ cur[j * 2 + 1]? = some (.int .i64 (greatF rs h j))) (fun v _ => pn - (intOf v).toNat)
  case atStart => exact ⟨0, mc, by omega, rfl, B.out, F.out, Z.out, HSZ.out, fun j hj => by omega⟩
  case round =>
    obtain ⟨k, cur, hk, rfl, hB, hF, hZ, hS, hC⟩ := hrel
    have HB := Lib.hid hB; have HF := Lib.hid hF; have HZ := Lib.hid hZ; have HS := Lib.hid hS; have HC := Lib.hid hC
    have hz := hZ.lt
    clear hB hF hZ hS hC
    by_cases hkn : k < pn
    · have HL2 := Lib.hid fun (w' : World) (hb : Below wr.heap.size wr w') => HL.out w' (HB.out.trans (hb.mono HB.out.size)) k hkn
      have HG2 := Lib.hid fun (w' : World) (hb : Below wr.heap.size wr w') => HG.out w' (HB.out.trans (hb.mono HB.out.size)) k hkn
      obtain ⟨lk, hlk⟩ : ∃ x, leastF rs h k = x := ⟨_, rfl⟩
      obtain ⟨gk, hgk⟩ : ∃ x, greatF rs h k = x := ⟨_, rfl⟩
      rw [hlk] at HL2; rw [hgk] at HG2
      have EL := Lib.hid hlk; have EG := Lib.hid hgk
      clear hlk hgk
      go_wp2
      refine wp_free 12 (by kernel_rfl) (by kernel_rfl) (by kernel_rfl) (by decide) ?_
      intro K hK
      repeat' (first
        | (apply Obl.call (by decide) rfl; (intro w' hb; go_simp; exact ⟨rfl, rfl⟩); (intro w' hb; exact HL2.out w' hb))
        | (apply Obl.call (by decide) rfl; (intro w' hb; go_simp; exact ⟨rfl, rfl⟩); (intro w' hb; exact HG2.out w' hb))
        | (apply Obl.val (by decide) rfl; (intro w' hb; have := (HF.out.after hb).cell; go_simp; rfl)))
      apply Obl.nil
      apply hK
      intro w2 hb
      simp only [Act.put, List.setIfInBounds_toArray, List.set_cons_zero, List.set_cons_succ, List.drop_succ_cons, List.drop_zero]
      clear hK K
      have HB2 := Lib.hid (nextB HB.out hb); have HF2 := Lib.hid (HF.out.after hb); have HZ2 := Lib.hid (HZ.out.after hb)
      clear hb
      have hso : k * 2 + 2 ≤ cur.size := by rw [HS.out]; omega
      have HSO := Lib.hid hso
      clear hso
      go_wp2_with (refine wpList_store_part rfl 43 _ _ rfl (w.heap.size + 1 + 1) (k * 2) rfl _ rfl 43 cur HZ2.out (by kernel_rfl) HSO.out (by simp [Value.oneCell']) ?_)
      go_roundw
      case rel =>
        refine ⟨k + 1, over cur (k * 2) #[.int .i64 lk, .int .i64 gk], by omega, by go_num, rowB HB2.out (by omega) _, HF2.out.setRow_far (by omega) _, HZ2.out.setRow _, ?_, fun j hj => ?_⟩
        · rw [over_two _ _ _ _ HSO.out]; simp [HS.out]
        · have h0 := HSO.out
          rw [over_two _ _ _ _ h0]
          by_cases hjk : j < k
          · rw [Array.getElem?_setIfInBounds, if_neg (by omega), Array.getElem?_setIfInBounds, if_neg (by omega), Array.getElem?_setIfInBounds, if_neg (by omega), Array.getElem?_setIfInBounds, if_neg (by omega)]
            exact HC.out j hjk
          · have hjk : j = k := by omega
            subst hjk
            rw [EL.out, EG.out]
            simp [Array.getElem?_setIfInBounds]
            omega
      case measure => simp [intOf]; omega
    · go_wp2
      have hke : k = pn := by omega
      subst hke
      refine bodyPost_ret (results_tmp rfl _ _ _) rfl ⟨w.heap.size + 1 + 1, rfl, RowOf.of_pairs HZ.out (by simp [spansOf]) (fun j x hx => ?_), by omega, HB.out⟩
      obtain ⟨h1, rfl⟩ := spansOf_get hx
      exact HC.out j h1
end Go.Proofs
namespace Go.Proofs
open Go.RowKit Go.Shelf Gas
attribute [local go_sem ↓] Go.wp_at_zero Go.wp_at_succ

theorem info128 : ∃ i, Tryz.prog.info? 80 = some i ∧ i.zero = some (.agg #[.int .i64 0, .int .i64 0, .int .i64 0, .int .i64 0]) ∧ i.bytes = 32 ∧ i.size = 4 := by
  have h : (Tryz.prog.info? 80).isSome = true := by kernel_rfl
  exact ⟨(Tryz.prog.info? 80).get h, (Option.some_get _).symm, by kernel_rfl, by kernel_rfl, by kernel_rfl⟩

def OwnsSt (w0 : World) (n : Nat) (xs : List St) (e : Ending) (w' : World) : Prop := ∃ v, e = .returned v ∧ w'.ownsRow w0.heap.size 80 4 v n (flat St.cs xs) ∧ Below w0.heap.size w0 w'

set_option maxHeartbeats 1000000 in
set_option maxRecDepth 20000 in
theorem grow_c (n : Nat) (h0 : 0 < n) (hn : n ≤ 1000000) (w : World) : Calls Tryz.prog 128 #[.slice none 0 0, .int .i64 n] w (OwnsSt w 0 []) := by
  obtain ⟨i, hi, hz, hb, hs⟩ := info128
  have HA := Lib.hid (Lib.run_append_nil_zeros (P := Tryz.prog) w 29 3 29 80 i _ .i64 .i64 (by kernel_rfl) (by kernel_rfl) hi hz n h0 (by omega) (by omega) (by rw [hb]; omega))
  clear hi hz hb hs
  go_enter Tryz.func128, Tryz.ntmps128
  go_wp2_with (at_builtin; refine Lib.wpList_append_run _ rfl _ _ _ _ rfl _ _ rfl rfl _ _ HA.out ?_)
  have hge := grownCap_ge w n 0 80
  have hmx := grownCap_le_maxLen w n 0 80 (by unfold maxLen; omega)
  refine bodyPost_ret (results_tmp rfl _ _ _) rfl ⟨_, rfl, ⟨rfl, .inr ⟨w.heap.size, grownCap w n 0 80, _, rfl, Nat.le_refl _, heap_alloc_new w _, Nat.zero_le _, hmx, ?_, by simp [flat]⟩⟩, (newB (Below.refl w.heap.size w) _).drew⟩
  simp [size_zeroCells]
  omega
end Go.Proofs
namespace Go.Proofs
open Go.RowKit Go.Shelf Gas
attribute [local go_sem ↓] Go.wp_at_zero Go.wp_at_succ

theorem flat_append {α : Type} (f : α → List Value) : ∀ xs ys : List α, flat f (xs ++ ys) = flat f xs ++ flat f ys
  | [], ys => rfl
  | x :: r, ys => by simp [flat, flat_append f r ys]
theorem below_grown {W A : World} {B : Nat} {row : Option Nat} (k : W.grownBy A row) (hm : ∀ r, row = some r → B ≤ r) (hB : B ≤ W.heap.size) : Below B W A := by
  cases row with
  | none =>
    have k2 : W.grownBy A (some W.heap.size) := ⟨k.os, k.tape, k.output, k.size, fun i hi _ => k.block i hi (by simp)⟩
    exact grown_base (Below.refl B W) k2 hB hB
  | some r => exact grown_base (Below.refl B W) k (hm r rfl) hB

theorem cs_one (s : St) : ∀ u ∈ s.cs, u.oneCell' = true := by simp [St.cs, Value.oneCell']
theorem flat_one {α : Type} {f : α → List Value} (h : ∀ x, ∀ u ∈ f x, u.oneCell' = true) : ∀ xs : List α, ∀ u ∈ flat f xs, u.oneCell' = true
  | [], u, hu => by simp [flat] at hu
  | x :: r, u, hu => by
    simp only [flat, List.mem_append] at hu
    rcases hu with hu | hu
    · exact h x u hu
    · exact flat_one h r u hu

theorem wpList_app54 {ops : Array Oper} {rest : List Oper} {o : Oper} {a : Act} {w : World} {Q : Exit → Act → World → Prop} (hgd : o.guard = none) (s x : Operand)
    (ho : o.op = .call { callee := .builtin .append, args := #[s, x], argTypes := #[29, 29] })
    (base : Nat) (v : Value) (n : Nat) (ys : List St) (hs : a.eval s = v) (hown : w.ownsRow base 80 4 v n (flat St.cs ys))
    (A : Option Addr) (m c : Nat) (xs : List St) (hx : a.eval x = .slice A m c) (hA : A = none → c = 0) (hsl : SlOf St.cs 4 w A m xs) (hb : n + m ≤ 4000000) (hbase : base ≤ w.heap.size)
    (h : ∀ v' w', w'.ownsRow base 80 4 v' (n + m) (flat St.cs (ys ++ xs)) → Below base w w' → wpList Tryz.prog ops Q rest (a.put o.dst v') w') : wpList Tryz.prog ops Q (o :: rest) a w := by
  obtain ⟨i, hi, hz, hby, hsz⟩ := info128
  have hm := hsl.1
  rcases A with _ | ad
  · have hm0 : m = 0 := by
      rcases Nat.eq_zero_or_pos m with h0 | h0
      · exact h0
      · obtain ⟨_, _, e⟩ := hsl.addr h0; cases e
    subst hm0
    have := hA rfl
    subst this
    have hx0 : xs = [] := List.eq_nil_of_length_eq_zero hm
    subst hx0
    refine wpList_append_own_none hgd s x 29 ho base 80 i 4 (by kernel_rfl) hi v n _ hs hown hx (h v w ?_ (Below.refl _ _))
    rw [List.append_nil]; exact hown
  · refine wpList_append_own w hgd s x 29 ho base 80 i _ 4 32 (by kernel_rfl) hi hz hsz hby rfl (by omega) v n _ hs hown ad m c (flat St.cs xs) hx (by rw [flat_len St.cs_len, hm]) ?_ (flat_one cs_one xs) (by unfold maxLen; omega) (by omega) hbase
      (fun v' w' h1 h2 _ => h v' w' (by rw [flat_append]; exact h1) (below_grown h2 (fun r hr => (hown.lt r hr).1) hbase))
    intro j u hu
    have hl := flat_len St.cs_len xs
    have hj := (List.getElem?_eq_some_iff.1 hu).1
    obtain ⟨b, o', e, hc⟩ := hsl.2.2 (by omega)
    cases e
    have := hc j u hu
    have hadd : (⟨b, o', none⟩ : Addr).add j = ⟨b, o' + j, none⟩ := by unfold Addr.add; split <;> simp_all
    rw [hadd]; exact this
end Go.Proofs
namespace Go.Proofs
open Go.RowKit Go.Shelf Gas
attribute [local go_sem ↓] Go.wp_at_zero Go.wp_at_succ

set_option maxHeartbeats 1000000 in
set_option maxRecDepth 20000 in
theorem concat_c (B : Nat) (A C : Option Addr) (n c m d : Nat) (xs ys : List St) (hA : A = none → c = 0) (hC : C = none → d = 0) (hn : n ≤ 400000) (hm : m ≤ 400000) (hpos : 0 < n + m) (w : World)
    (hB : Has w B 29 #[.slice A n c, .slice C m d]) (hxs : SlOf St.cs 4 w A n xs) (hys : SlOf St.cs 4 w C m ys) : Calls Tryz.prog 108 #[.slice (some ⟨B, 0, none⟩) 2 2] w (OwnsSt w (n + m) (xs ++ ys)) := by
  have HG := Lib.hid (show Calls Tryz.prog 128 #[.slice none 0 0, .int .i64 ((n : Int) + m)] w (OwnsSt w 0 []) from by simpa using grow_c (n + m) hpos (by omega) w)
  have HX := Lib.hid hxs; have HY := Lib.hid hys; have HB := Lib.hid hB; have HA := Lib.hid hA; have HC := Lib.hid hC
  have hc := hB.cell
  have hlt := hB.lt
  clear hxs hys hB hA hC
  go_enter Tryz.func108, Tryz.ntmps108
  go_wp2
  refine wp_loop_rounds 3 ?_
  simp only [Code.rounds]
  go_wp2_with (go_at_call 128; refine HG.out.mono ?_; rintro e w1 ⟨v1, rfl, ho1, hb1⟩; have HO1 := Lib.hid ho1; have HB1 := Lib.hid hb1; have hc1 := (HB.out.after hb1).cell; clear ho1 hb1 hc)
  refine wp_loop_rounds 3 ?_
  simp only [Code.rounds]
  go_wp2_with (first
    | (at_builtin; refine wpList_app54 rfl _ _ rfl w.heap.size v1 0 [] rfl HO1.out A n c xs rfl HA.out (HX.out.keep HB1.out) (by omega) HB1.out.size ?_; intro v2 w2 ho2 hb2; have HO2 := Lib.hid ho2; have HB2 := Lib.hid (HB1.out.trans hb2); have hc2 := (HB.out.after HB2.out).cell; clear ho2 hb2 hc1)
    | (at_builtin; refine wpList_app54 rfl _ _ rfl w.heap.size v2 _ _ rfl HO2.out C m d ys rfl HC.out (HY.out.keep HB2.out) (by omega) HB2.out.size ?_; intro v3 w3 ho3 hb3; have HO3 := Lib.hid ho3; have HB3 := Lib.hid (HB2.out.trans hb3); have hc3 := (HB.out.after HB3.out).cell; clear ho3 hb3 hc2))
  have ho := HO3.out
  rw [Nat.zero_add, List.nil_append] at ho
  exact bodyPost_ret (results_tmp rfl _ _ _) rfl ⟨v3, rfl, ho, HB3.out⟩
end Go.Proofs
namespace Go.Proofs
open Go.RowKit Go.Shelf Gas
attribute [local go_sem ↓] Go.wp_at_zero Go.wp_at_succ

def st0 : St := ⟨0, 0, 0, 0⟩
theorem SlOf.of_cells {α : Type} {f : α → List Value} {sz : Nat} (hf : ∀ x, (f x).length = sz) {w : World} {D : Nat} {t : TypeId} {cs : Array Value} {n : Nat} {xs : List α} (hg : Has w D t cs) (hl : xs.length = n) (hc : cs.toList = flat f xs) :
    SlOf f sz w (some ⟨D, 0, none⟩) n xs := by
  refine ⟨hl, by rw [flat_len hf, hl], fun _ => ⟨D, 0, rfl, fun j u hu => ?_⟩⟩
  rw [Nat.zero_add, hg.cell j, ← Array.getElem?_toList, hc]; exact hu
theorem OwnsSt.mono {w0 w1 : World} {n : Nat} {xs : List St} {e : Ending} {w' : World} (h : OwnsSt w1 n xs e w') (hb : Below w0.heap.size w0 w1) : OwnsSt w0 n xs e w' := by
  obtain ⟨v, rfl, ho, hb1⟩ := h
  refine ⟨v, rfl, ⟨ho.1, ?_⟩, nextB hb hb1⟩
  rcases ho.2 with h | ⟨g, cap, cur, h1, h2, h3⟩
  · exact .inl h
  · exact .inr ⟨g, cap, cur, h1, Nat.le_trans hb.size h2, h3⟩

set_option maxHeartbeats 1000000 in
theorem surfaced_c (A : Option Addr) (n c : Nat) (xs : List St) (hA : A = none → c = 0) (hn : n ≤ 300000) (w : World) (hxs : SlOf St.cs 4 w A n xs) : Calls Tryz.prog 77 #[.slice A n c] w (OwnsSt w (n + 1) (xs ++ [st0])) := by
  have B2 := Lib.hid (newB (newB (Below.refl w.heap.size w) (.cells #[.int .i64 0, .int .i64 0, .int .i64 0, .int .i64 0] 80)) (.cells #[.slice A n c, .slice (some ⟨w.heap.size, 0, none⟩) 1 1] 29))
  have Z := Lib.hid ((Has.new w 80 #[.int .i64 0, .int .i64 0, .int .i64 0, .int .i64 0]).alloc (.cells #[.slice A n c, .slice (some ⟨w.heap.size, 0, none⟩) 1 1] 29))
  have G := Lib.hid (Has.new' (w.alloc (.cells #[.int .i64 0, .int .i64 0, .int .i64 0, .int .i64 0] 80)) 29 #[.slice A n c, .slice (some ⟨w.heap.size, 0, none⟩) 1 1] (g := w.heap.size + 1) (by simp))
  have HC := Lib.hid ((concat_c (w.heap.size + 1) A (some ⟨w.heap.size, 0, none⟩) n c 1 1 xs [st0] hA (by simp) (by omega) (by omega) (by omega) _ G.out (hxs.keep B2.out) (SlOf.of_cells St.cs_len Z.out rfl rfl)).mono fun e w' h => h.mono B2.out)
  clear hxs Z G B2
  go_enter Tryz.func77, Tryz.ntmps77
  go_wp2_with (go_at_call 108; refine HC.out.mono ?_; rintro e w1 ⟨v1, rfl, ho1, hb1⟩; have HO1 := Lib.hid ho1; have HB1 := Lib.hid hb1; clear ho1 hb1)
  exact bodyPost_ret (results_tmp rfl _ _ _) rfl ⟨v1, rfl, HO1.out, HB1.out⟩
end Go.Proofs
namespace Go.Proofs
open Go.RowKit Go.Shelf Gas
attribute [local go_sem ↓] Go.wp_at_zero Go.wp_at_succ

theorem defined_ok {t : Tm} (ht : t.Small) {w : World} (hi : t.In w) {dive : List St} {room : Int} (h : definedB t.ps t.ss t.rs dive room = true) : t.Ok ∧ (∀ s ∈ dive, SOk s) ∧ (dive.length : Int) + room ≤ 4 := by
  simp only [definedB, tableB, manB, diveB, Bool.and_eq_true, decide_eq_true_eq] at h
  obtain ⟨⟨⟨⟨⟨h1, h2⟩, h3⟩, h4⟩, h5, h6⟩, h7, h8⟩ := h
  refine ⟨⟨ht, by rw [← hi.rs.1, ← hi.ps.1]; exact h5, h6, h3⟩, fun s hs => ?_, h7⟩
  have := List.all_eq_true.1 h8 s hs
  simp only [stageB, ordB, Bool.and_eq_true, decide_eq_true_eq] at this
  exact ⟨by omega, by omega, by omega, by omega, by omega⟩
theorem st0_ok : SOk st0 := ⟨by simp [st0], by simp [st0], by simp [st0]⟩

def h0 : Nat → Int → Pr := fun _ _ => (1000, 1000)
theorem h0_ok {t : Tm} (h : t.Ok) : FolOk t h0 := ⟨h, fun _ _ _ _ _ => ⟨by simp [h0], by simp [h0], by simp [h0], by simp [h0]⟩⟩
def knownL (ps rs : List Pr) (pn : Nat) : FS → List St → List (List Pr)
  | _, [] => []
  | a, s :: l => spansOf rs a.1 pn :: knownL ps rs pn (stayH a.1 s, enterB ps rs a.1 s.dl a.2) l

/-- Rows of rows, owned. -/
structure Lists (w : World) (base : Nat) (v : Value) (m : Nat) (xss : List (List Pr)) : Prop where
  ex : ∃ cells, w.ownsRow base 26 1 v xss.length cells ∧ ∀ (j : Nat) xs, xss[j]? = some xs → ∃ D, cells[j]? = some (.slice (some ⟨D, 0, none⟩) m m) ∧ RowOf prC 2 w D 43 m xs
theorem Lists.keep {w w' : World} {base : Nat} {v : Value} {m : Nat} {xss : List (List Pr)} (h : Lists w base v m xss) (hb : Below w.heap.size w w') : Lists w' base v m xss := by
  obtain ⟨cells, h1, h2⟩ := h.ex
  refine ⟨cells, ⟨h1.1, ?_⟩, fun j xs hx => ?_⟩
  · rcases h1.2 with h | ⟨g, cap, cur, e1, e2, e3, e4⟩
    · exact .inl h
    · exact .inr ⟨g, cap, cur, e1, e2, (hb.block g (Array.getElem?_eq_some_iff.1 e3).1).trans e3, e4⟩
  · obtain ⟨D, a, b⟩ := h2 j xs hx
    exact ⟨D, a, b.keep hb⟩
theorem RowOf.setRow {w : World} {α : Type} {f : α → List Value} {sz g n : Nat} {t : TypeId} {xs : List α} (h : RowOf f sz w g t n xs) {k : Nat} {t' : TypeId} {cs0 : Array Value} (hk : Has w k t' cs0) (ht : t ≠ t') (cs : Array Value) : RowOf f sz (w.setRow k cs) g t n xs :=
  h.same (setRow_other w k g cs (h.ne hk ht))
theorem Lists.setRow {w : World} {base : Nat} {v : Value} {m : Nat} {xss : List (List Pr)} (h : Lists w base v m xss) {k : Nat} {t' : TypeId} {cs0 : Array Value} (hk : Has w k t' cs0) (h1 : t' ≠ 26) (h2 : t' ≠ 43) (cs : Array Value) : Lists (w.setRow k cs) base v m xss := by
  obtain ⟨cells, a1, a2⟩ := h.ex
  refine ⟨cells, ⟨a1.1, ?_⟩, fun j xs hx => ?_⟩
  · rcases a1.2 with h | ⟨g, cap, cur, e1, e2, e3, e4⟩
    · exact .inl h
    · exact .inr ⟨g, cap, cur, e1, e2, (setRow_other w k g cs (fun e => by subst e; unfold Has at hk; rw [e3] at hk; cases hk; exact h1 rfl)).trans e3, e4⟩
  · obtain ⟨D, a, b⟩ := a2 j xs hx
    exact ⟨D, a, b.setRow hk (Ne.symm h2) cs⟩
theorem grown_type {w w' : World} {base size n : Nat} {e t : TypeId} {v : Value} {xs : List Value} (ho : w.ownsRow base e size v n xs) (k : w.grownBy w' v.ownBlock) {g : Nat} {cs : Array Value} (hg : Has w g t cs) (ht : t ≠ e) : w'.heap[g]? = w.heap[g]? := by
  refine k.block g hg.lt (fun e1 => ?_)
  rcases ho.2 with ⟨rfl, _⟩ | ⟨g', cap, cur, rfl, _, h3, _⟩
  · cases e1
  · cases e1
    unfold Has at hg
    rw [h3] at hg; cases hg; exact ht rfl
/-- Blocks of other things than rows of a type stay. -/
def Spares (w w' : World) (e : TypeId) : Prop := ∀ g, g < w.heap.size → (∀ cs, w.heap[g]? ≠ some (.cells cs e (0, 0))) → w'.heap[g]? = w.heap[g]?
theorem Spares.of_grown {w w' : World} {base size n : Nat} {e : TypeId} {v : Value} {xs : List Value} (ho : w.ownsRow base e size v n xs) (k : w.grownBy w' v.ownBlock) : Spares w w' e := by
  intro g hlt hg
  refine k.block g hlt (fun e1 => ?_)
  rcases ho.2 with ⟨rfl, _⟩ | ⟨g', cap, cur, rfl, _, h3, _⟩
  · cases e1
  · cases e1
    exact hg _ h3
theorem Spares.has {w w' : World} {e : TypeId} (h : Spares w w' e) {g : Nat} {t : TypeId} {cs : Array Value} (hg : Has w g t cs) (ht : t ≠ e) : Has w' g t cs :=
  (h g hg.lt (fun cs' h' => by unfold Has at hg; rw [h'] at hg; cases hg; exact ht rfl)).trans hg
theorem Spares.row {w w' : World} {e : TypeId} (h : Spares w w' e) {α : Type} {f : α → List Value} {sz g n : Nat} {t : TypeId} {xs : List α} (hg : RowOf f sz w g t n xs) (ht : t ≠ e) : RowOf f sz w' g t n xs := by
  obtain ⟨cur, h1, h2⟩ := hg
  exact ⟨cur, h.has h1 ht, h2⟩
theorem Spares.map {w w' : World} {e : TypeId} (h : Spares w w' e) {b : Nat} {f : Int → Int → Option Pr} (hm : MapAt w b f) : MapAt w' b f :=
  hm.same (h b hm.lt (fun cs h' => by obtain ⟨es, ck, h1, _⟩ := hm.ex; rw [h'] at h1; cases h1))
def IsKnown (w0 : World) (m : Nat) (xss : List (List Pr)) (er : Int) (e : Ending) (w' : World) : Prop := ∃ v, e = .returned (.tuple #[v, .int .i64 er]) ∧ Lists w' w0.heap.size v m xss ∧ Below w0.heap.size w0 w'
def knownF (t : Tm) (dive : List St) : List (List Pr) := if definedB t.ps t.ss t.rs dive 0 then knownL t.ps t.rs t.pn (h0, true) (dive ++ [st0]) else []

theorem info51 : ∃ i, Tryz.prog.info? 26 = some i ∧ i.zero = some (.slice none 0 0) ∧ i.bytes = 24 ∧ i.size = 1 := by
  have h : (Tryz.prog.info? 26).isSome = true := by kernel_rfl
  exact ⟨(Tryz.prog.info? 26).get h, (Option.some_get _).symm, by kernel_rfl, by kernel_rfl, by kernel_rfl⟩

theorem wpList_app71 {ops : Array Oper} {rest : List Oper} {o : Oper} {a : Act} {w : World} {Q : Exit → Act → World → Prop} (hgd : o.guard = none) (s x : Operand)
    (ho : o.op = .call { callee := .builtin .append, args := #[s, x], argTypes := #[60, 60] })
    (base : Nat) (v : Value) (m : Nat) (xss : List (List Pr)) (hs : a.eval s = v) (hl : Lists w base v m xss) (hlen : xss.length ≤ 1000000)
    (b D : Nat) (hx : a.eval x = .slice (some ⟨b, 0, none⟩) 1 1) (hb : Has w b 26 #[.slice (some ⟨D, 0, none⟩) m m]) (xs : List Pr) (hD : RowOf prC 2 w D 43 m xs) (hbase : base ≤ w.heap.size)
    (h : ∀ v' w', Lists w' base v' m (xss ++ [xs]) → Below base w w' → Spares w w' 26 → wpList Tryz.prog ops Q rest (a.put o.dst v') w') : wpList Tryz.prog ops Q (o :: rest) a w := by
  obtain ⟨i, hi, hz, hby, hsz⟩ := info51
  obtain ⟨cells, h1, h2⟩ := hl.ex
  refine wpList_append_own w hgd s x 60 ho base 26 i _ 1 24 (by kernel_rfl) hi hz hsz hby rfl (by omega) v xss.length _ hs h1 ⟨b, 0, none⟩ 1 1 [.slice (some ⟨D, 0, none⟩) m m] hx rfl ?_ (by simp [Value.oneCell']) (by unfold maxLen; omega) (by omega) hbase
    (fun v' w' e1 e2 _ => h v' w' ⟨cells ++ [.slice (some ⟨D, 0, none⟩) m m], by simpa using e1, fun j ys hy => ?_⟩ (below_grown e2 (fun r hr => (h1.lt r hr).1) hbase) (Spares.of_grown h1 e2))
  · intro j u hu
    have hadd : (⟨b, 0, none⟩ : Addr).add j = ⟨b, j, none⟩ := by unfold Addr.add; split <;> simp_all
    rw [hadd, hb.cell j]
    simpa using hu
  · have hcl : cells.length = xss.length := by simpa using h1.1
    by_cases hj : j < xss.length
    · rw [List.getElem?_append_left hj] at hy
      obtain ⟨E, a1, a2⟩ := h2 j ys hy
      refine ⟨E, by rw [List.getElem?_append_left (by omega)]; exact a1, ?_⟩
      obtain ⟨cur, c1, _⟩ := id a2
      exact a2.same (grown_type h1 e2 c1 (by decide))
    · rw [List.getElem?_append_right (by omega)] at hy
      have hj0 : j - xss.length = 0 := by
        have := (List.getElem?_eq_some_iff.1 hy).1; simp at this; omega
      rw [hj0] at hy; cases hy
      refine ⟨D, by rw [List.getElem?_append_right (by omega), hcl, hj0]; rfl, ?_⟩
      obtain ⟨cur, c1, _⟩ := id hD
      exact hD.same (grown_type h1 e2 c1 (by decide))
end Go.Proofs
namespace Go.Proofs
open Go.RowKit Go.Shelf Gas
attribute [local go_sem ↓] Go.wp_at_zero Go.wp_at_succ

theorem OwnsSt.row {w0 : World} {n : Nat} {xs : List St} {e : Ending} {w' : World} (h : OwnsSt w0 n xs e w') (hn : 0 < n) : ∃ g cap, e = .returned (.slice (some ⟨g, 0, none⟩) n cap) ∧ RowOf St.cs 4 w' g 80 n xs ∧ Below w0.heap.size w0 w' := by
  obtain ⟨v, rfl, ho, hb⟩ := h
  rcases ho.2 with ⟨_, h0⟩ | ⟨g, cap, cur, rfl, h2, h3, h4, h5, h6, h7⟩
  · omega
  · refine ⟨g, cap, rfl, ⟨cur, h3, ?_, fun j u hu => ?_⟩, hb⟩
    · have := ho.1; rw [flat_len St.cs_len] at this; omega
    · rw [← h7, List.getElem?_take] at hu
      split at hu
      · rw [← Array.getElem?_toList]; exact hu
      · cases hu

set_option maxHeartbeats 4000000 in
theorem Known_c (t : Tm) (ht : t.Small) (A : Option Addr) (n c : Nat) (dive : List St) (hA : A = none → c = 0) (hn : n ≤ 100000) (w : World) (hi : t.In w) (hd : SlOf St.cs 4 w A n dive) :
    Calls Tryz.prog 32 #[t.tab, t.man, .slice A n c] w (IsKnown w t.pn (knownF t dive) (errI (definedB t.ps t.ss t.rs dive 0))) := by
  have HD := Lib.hid fun (w' : World) (hb : Below w.heap.size w w') => defined_c t ht A n c dive 0 (by omega) (by omega) w' (hi.keep hb) (hd.keep hb)
  have HOK := Lib.hid fun h => defined_ok ht hi (dive := dive) (room := 0) h
  cases hdb : definedB t.ps t.ss t.rs dive 0
  · have HE := Lib.hid (show knownF t dive = [] by simp [knownF, hdb])
    rw [hdb] at HD
    clear hi hd HOK hdb
    obtain ⟨pA, sA, rA, pn, pc, sn, sc, rn, rc, ps, ss, rs⟩ := t
    simp only [Tm.tab, Tm.man] at *
    go_enter Tryz.func32, Tryz.ntmps32
    go_wp2_with (go_at_call 56; refine (HD.out _ (newB (newB (Below.refl _ _) _) _)).mono ?_; rintro e w1 ⟨rfl, hb1⟩; have HB1 := Lib.hid hb1; clear hb1)
    rw [HE.out]
    refine bodyPost_ret (results_tmp2 rfl _ _ _) rfl ⟨.slice none 0 0, rfl, ⟨[], World.ownsRow_nil _ _ _ _, by simp⟩, nextB (newB (newB (Below.refl _ _) _) _) HB1.out⟩
  · have HE := Lib.hid (show knownF t dive = knownL t.ps t.rs t.pn (h0, true) (dive ++ [st0]) by simp [knownF, hdb])
    obtain ⟨hok, hds, hlen⟩ := HOK.out hdb
    have hl := hd.1
    have hS1 : ∀ s ∈ dive ++ [st0], SOk s := fun s hs => by
      rcases List.mem_append.1 hs with h | h
      · exact hds s h
      · simp at h; subst h; exact st0_ok
    have HSO := Lib.hid hS1
    have HLN := Lib.hid (show (dive ++ [st0]).length = n + 1 by simp [hl])
    have HH0 := Lib.hid (h0_ok hok)
    have HBg := Lib.hid fun (w' : World) (hb : Below w.heap.size w w') => begin_c t hok w' (hi.keep hb)
    have HSf := Lib.hid fun (w' : World) (hb : Below w.heap.size w w') => (surfaced_c A n c dive hA (by omega) w' (hd.keep hb)).mono fun e w2 h => h.row (by omega)
    have HX := Lib.hid fun (w' : World) (hb : Below w.heap.size w w') (h' : Nat → Int → Pr) (ho' : FolOk t h') (s : St) (hs : SOk s) (b' : Nat) (k' : Bool) (hm' : MapAt w' b' (heldF t.rs h')) => stay_c t h' ho' s hs b' k' w' (hi.keep hb) hm'
    have HKn := Lib.hid fun (w' : World) (hb : Below w.heap.size w w') (h' : Nat → Int → Pr) (ho' : FolOk t h') (b' : Nat) (k' : Bool) (hm' : MapAt w' b' (heldF t.rs h')) => known_c t h' ho' b' k' w' (hi.keep hb) hm'
    have HNext := Lib.hid fun (h' : Nat → Int → Pr) (ho' : FolOk t h') (s : St) (hs : SOk s) => ho'.stay hs
    rw [hdb] at HD
    rw [HE.out]
    clear hi hd HOK hdb hok hds hS1 HE
    generalize dive ++ [st0] = all at *
    have hn4 : n ≤ 4 := by omega
    clear hlen hl
    obtain ⟨pA, sA, rA, pn, pc, sn, sc, rn, rc, ps, ss, rs⟩ := t
    have HFV := Lib.hid (show ∀ b k, FolV ⟨pA, sA, rA, pn, pc, sn, sc, rn, rc, ps, ss, rs⟩ b k = .agg #[.slice pA pn pc, .slice sA sn sc, .slice rA rn rc, .map (some b), .bool k] from fun _ _ => rfl)
    simp only [Tm.tab, Tm.man] at *
    have T0 := Lib.hid ((Has.new w 25 #[.slice pA pn pc, .slice sA sn sc]).alloc (.cells #[.slice rA rn rc] 28))
    have M0 := Lib.hid (Has.new' (w.alloc (.cells #[.slice pA pn pc, .slice sA sn sc] 25)) 28 #[.slice rA rn rc] (g := w.heap.size + 1) (by simp))
    have B0 := Lib.hid (newB (newB (Below.refl w.heap.size w) (.cells #[.slice pA pn pc, .slice sA sn sc] 25)) (.cells #[.slice rA rn rc] 28))
    go_enter Tryz.func32, Tryz.ntmps32
    go_wp2_with (first
      | (go_at_call 56; refine (HD.out _ B0.out).mono ?_; rintro e w1 ⟨rfl, hb1⟩; have HB1 := Lib.hid (nextB B0.out hb1); have T1 := Lib.hid (T0.out.after hb1); have M1 := Lib.hid (M0.out.after hb1); have ct := T1.out.cell; have cm := M1.out.cell; clear hb1)
      | (go_at_call 57; refine (HBg.out _ HB1.out).mono ?_; rintro e w2 ⟨bm, rfl, hM, hb2⟩; rw [HFV.out]; have HM := Lib.hid hM; have HB2 := Lib.hid (nextB HB1.out hb2); clear hM hb2)
      | (go_at_call 77; refine (HSf.out _ (newB HB2.out _)).mono ?_; rintro e w3 ⟨sg, cap, rfl, hR, hb3⟩; have HR := Lib.hid hR; have HB3 := Lib.hid (nextB (newB HB2.out _) hb3); have F3 := Lib.hid ((Has.new w2 108 #[.slice pA pn pc, .slice sA sn sc, .slice rA rn rc, .map (some bm), .bool true]).after hb3); have HM3 := Lib.hid ((HM.out.keep (newB (Below.refl _ _) _)).keep hb3); clear hR hb3))
    have HZ := Lib.hid (show w.heap.size ≤ w2.heap.size from HB2.out.size)
    have HL0 := Lib.hid (show Lists w3 w.heap.size (.slice none 0 0) pn [] from ⟨[], World.ownsRow_nil _ _ _ _, by simp⟩)
    clear ct cm
    go_loopw [8, 23] (fun v i wr => ∃ (k : Nat) (h' : Nat → Int → Pr) (kk : Bool) (b' : Nat) (done : List (List Pr)), k ≤ n + 1 ∧ i = .int .i64 k ∧ Below w.heap.size w wr ∧ FolOk ⟨pA, sA, rA, pn, pc, sn, sc, rn, rc, ps, ss, rs⟩ h' ∧ MapAt wr b' (heldF rs h')
      ∧ knownL ps rs pn (h0, true) all = done ++ knownL ps rs pn (h', kk) (all.drop k) ∧ done.length = k ∧ Lists wr w.heap.size v pn done
      ∧ Has wr w2.heap.size 108 #[.slice pA pn pc, .slice sA sn sc, .slice rA rn rc, .map (some b'), .bool kk] ∧ RowOf St.cs 4 wr sg 80 (n + 1) all) (fun _ i _ => n + 1 - (intOf i).toNat)
    case atStart => exact ⟨0, h0, true, bm, [], by omega, rfl, HB3.out, HH0.out, HM3.out, rfl, rfl, HL0.out, F3.out, HR.out⟩
    case round =>
      obtain ⟨k, h', kk, b', done, hk, rfl, hB, hO, hM, hE, hDn, hL, hF, hR⟩ := hrel
      have HB := Lib.hid hB; have HF := Lib.hid hF; have HO2 := Lib.hid hO; have HM2 := Lib.hid hM; have HE2 := Lib.hid hE; have HL := Lib.hid hL; have HR2 := Lib.hid hR
      have hz := hF.lt
      clear hB hF hO hM hE hL hR
      by_cases hkn : k < n + 1
      · have hkl : k < all.length := by rw [HLN.out]; exact hkn
        have hx := List.getElem?_eq_getElem hkl
        have HS := Lib.hid (HSO.out _ (List.getElem_mem hkl))
        have HDr := Lib.hid (List.drop_eq_getElem_cons hkl)
        obtain ⟨x, hxx⟩ : ∃ x, x = all[k] := ⟨_, rfl⟩
        rw [← hxx] at hx HS HDr
        have hR := Lib.hid ((HR2.out.sl St.cs_len).range St.cs_len hx)
        clear hx hxx
        obtain ⟨dl, dh, ml, mh⟩ := x
        replace hR := Lib.hid (show wr.rangeAt sg (0 + k * 4) [.int .i64 dl, .int .i64 dh, .int .i64 ml, .int .i64 mh] from hR.out)
        have N := Lib.hid (Has.new wr 80 #[.int .i64 dl, .int .i64 dh, .int .i64 ml, .int .i64 mh])
        have B2 := Lib.hid (newB (Below.refl wr.heap.size wr) (.cells #[.int .i64 dl, .int .i64 dh, .int .i64 ml, .int .i64 mh] 80))
        have F2 := Lib.hid (HF.out.after B2.out)
        simp only [St.val] at *
        go_wp2_with (first
          | (refine wpList_load_mid rfl 80 _ rfl sg (0 + k * 4) (by simp [go_sem]) _ _ hR.out Tryz.underlying80 rfl (by kernel_rfl) ?_)
          | (refine wpList_load_row rfl 108 _ rfl w2.heap.size rfl 108 _ (0, 0) _ F2.out Tryz.underlying108 rfl (by kernel_rfl) ?_)
          | (go_at_call 78; refine (HKn.out _ (nextB HB.out B2.out) h' HO2.out b' kk (HM2.out.keep B2.out)).mono ?_; rintro e w4 ⟨D, rfl, hRD, hDz, hb4⟩; have HRD := Lib.hid (hRD.keep (newB (Below.refl _ w4) (.cells #[.slice (some ⟨D, 0, none⟩) pn pn] 26))); have hb5 := nextB B2.out (newB hb4 (.cells #[.slice (some ⟨D, 0, none⟩) pn pn] 26)); have HB5 := Lib.hid (nextB HB.out hb5); have F5 := Lib.hid (HF.out.after hb5); have R5 := Lib.hid (HR2.out.keep hb5); have N5 := Lib.hid ((N.out.after hb4).alloc (.cells #[.slice (some ⟨D, 0, none⟩) pn pn] 26)); have M5 := Lib.hid (HM2.out.keep hb5); have L5 := Lib.hid (HL.out.keep hb5); clear hRD hDz hb4 hb5)
          | (at_builtin; refine wpList_app71 rfl _ _ rfl w.heap.size u8 pn done rfl L5.out (by omega) w4.heap.size D rfl (Has.new w4 26 _) _ HRD.out HB5.out.size ?_; intro v6 w6 hl6 hb6 hsp; have HL6 := Lib.hid hl6; have HB6 := Lib.hid (HB5.out.trans hb6); have F6 := Lib.hid (hsp.has F5.out (by decide)); have R6 := Lib.hid (hsp.row R5.out (by decide)); have N6 := Lib.hid (hsp.has N5.out (by decide)); have M6 := Lib.hid (hsp.map M5.out); clear hl6 hb6 hsp)
          | (refine wpList_load_row rfl 108 _ rfl w2.heap.size rfl 108 _ (0, 0) _ F6.out Tryz.underlying108 rfl (by kernel_rfl) ?_)
          | (refine wpList_load_row rfl 80 _ rfl wr.heap.size rfl 80 _ (0, 0) _ N6.out Tryz.underlying80 rfl (by kernel_rfl) ?_)
          | (go_at_call 65; refine (HX.out _ HB6.out h' HO2.out _ HS.out b' kk M6.out).mono ?_; rintro e w7 ⟨b2, rfl, hM, hb7⟩; have HM7 := Lib.hid hM; have HB7 := Lib.hid (nextB HB6.out hb7); have F7 := Lib.hid (F6.out.after hb7); have R7 := Lib.hid (R6.out.keep hb7); have L7 := Lib.hid (HL6.out.keep hb7); clear hb7 hM)
          | (refine wpList_store_all rfl 108 _ _ rfl w2.heap.size rfl _ rfl 108 _ F7.out (by kernel_rfl) rfl (by simp [Value.oneCell', folC]) ?_))
        have hkl' : done.length + 1 = k + 1 := by omega
        go_roundw
        case rel => exact ⟨k + 1, stayH h' ⟨dl, dh, ml, mh⟩, enterB ps rs h' dl kk, b2, done ++ [spansOf rs h' pn], by omega, by go_num, rowB HB7.out HZ.out _, HNext.out h' HO2.out _ HS.out, HM7.out.setRow (HM7.out.ne F7.out) _, HE2.out.trans (by rw [HDr.out]; simp [knownL]), by simpa using hkl', L7.out.setRow F7.out (by decide) (by decide) _, F7.out.setRow _, R7.out.setRow F7.out (by decide) _⟩
        case measure => simp [intOf]; omega
      · go_wp2
        have hke : k = n + 1 := by omega
        subst hke
        have hfin : knownL ps rs pn (h0, true) all = done := HE2.out.trans (by rw [List.drop_eq_nil_of_le (by rw [HLN.out]; exact Nat.le_refl _)]; simp [knownL])
        rw [hfin]
        exact bodyPost_ret (results_tmp2 rfl _ _ _) rfl ⟨u8, rfl, HL.out, HB.out⟩
end Go.Proofs
namespace Go.Proofs
open Go.RowKit Go.Shelf Gas
attribute [local go_sem ↓] Go.wp_at_zero Go.wp_at_succ

def leadFrom (p : Int → Bool) : Nat → Int → Int
  | 0, d => d
  | n + 1, d => if p d then leadFrom p n (d + 1) else d
def lead (p : Int → Bool) : Int := leadFrom p 41 0
def latV (d : Int) : Int := if d = 0 then 0 else d - 1
def latE (d : Int) : Int := if d = 0 then 5 else 0

set_option maxHeartbeats 1000000 in
theorem latest_c (gc : FuncId) (cap : Array Value) (eg : ∀ args w, (callFunc gc args).run Tryz.prog w = .ok (.enter gc args) w) (p : Int → Bool) (I : Int → World → Prop)
    (hf : ∀ d : Int, 0 ≤ d → d ≤ 40 → ∀ w', I d w' → Calls Tryz.prog gc (#[.int .i64 d] ++ cap) w' fun e w'' => e = .returned (.bool (p d)) ∧ I (if p d then d + 1 else d) w'') (w : World) (hI : I 0 w) :
    Calls Tryz.prog 63 #[.func (.func gc) #[] cap] w fun e w' => e = .returned (.tuple #[.int .i64 (latV (lead p)), .int .i64 (latE (lead p))]) ∧ I (lead p) w' := by
  have HF := Lib.hid hf; have HI := Lib.hid hI
  clear hf hI
  go_enter Tryz.func63, Tryz.ntmps63
  go_wp2
  go_loopw [4, 5, 7] (fun u v i wr => ∃ k : Nat, k ≤ 41 ∧ i = .int .i64 k ∧ u = .int .i64 (latV k) ∧ v = .int .i64 (latE k) ∧ I k wr ∧ lead p = leadFrom p (41 - k) k) (fun _ _ i _ => 41 - (intOf i).toNat)
  case atStart => exact ⟨0, by omega, rfl, rfl, rfl, HI.out, rfl⟩
  case round =>
    obtain ⟨k, hk, rfl, rfl, rfl, hI, hE⟩ := hrel
    have HI2 := Lib.hid hI; have HE := Lib.hid hE
    clear hI hE
    by_cases hkn : k < 41
    · have HC := Lib.hid (HF.out k (by omega) (by omega) wr HI2.out)
      have HS := Lib.hid (show leadFrom p (41 - k) k = if p k then leadFrom p (41 - (k + 1)) ((k : Int) + 1) else k by rw [show 41 - k = (41 - (k + 1)) + 1 by omega]; rfl)
      have HV := Lib.hid (show latV ((k : Int) + 1) = k ∧ latE ((k : Int) + 1) = 0 by unfold latV latE; constructor <;> (split <;> omega))
      cases hp : p k
      · have HP := Lib.hid hp
        rw [hp] at HC
        clear hp
        go_wp2_with (refine HC.out.mono ?_; rintro e w1 ⟨rfl, hI1⟩; have HI1 := Lib.hid hI1; clear hI1)
        have he : lead p = k := by rw [HE.out, HS.out, HP.out]; rfl
        exact bodyPost_ret (results_tmp2 rfl _ _ _) rfl ⟨by rw [he]; rfl, by rw [he]; simpa using HI1.out⟩
      · have HP := Lib.hid hp
        rw [hp] at HC
        clear hp
        go_wp2_with (refine HC.out.mono ?_; rintro e w1 ⟨rfl, hI1⟩; have HI1 := Lib.hid hI1; clear hI1)
        go_roundw
        case rel => exact ⟨k + 1, by omega, by go_num, by rw [show latV ((k + 1 : Nat) : Int) = k from HV.out.1], by rw [show latE ((k + 1 : Nat) : Int) = 0 from HV.out.2], by simpa using HI1.out, by rw [HE.out, HS.out, HP.out]; rfl⟩
        case measure => simp [intOf]; omega
    · have hke : k = 41 := by omega
      subst hke
      go_wp2
      have he : lead p = (41 : Nat) := by rw [HE.out]; rfl
      exact bodyPost_ret (results_tmp2 rfl _ _ _) rfl ⟨by rw [he]; rfl, by rw [he]; exact HI2.out⟩
end Go.Proofs
namespace Go.Proofs
open Go.RowKit Go.Shelf Gas
attribute [local go_sem ↓] Go.wp_at_zero Go.wp_at_succ

def stayS (l h m : Int) : St := ⟨l, h, m, m⟩
theorem staying_c (l h m : Int) (w : World) : Calls Tryz.prog 66 #[.agg #[.int .i64 l, .int .i64 h], .int .i64 m] w fun e w' => e = .returned (stayS l h m).val ∧ Below w.heap.size w w' := by
  have F := Lib.hid ((Has.new w 43 #[.int .i64 l, .int .i64 h]).alloc (.cells #[.int .i64 0, .int .i64 0, .int .i64 0, .int .i64 0] 80))
  have Z := Lib.hid (Has.new' (w.alloc (.cells #[.int .i64 l, .int .i64 h] 43)) 80 #[.int .i64 0, .int .i64 0, .int .i64 0, .int .i64 0] (g := w.heap.size + 1) (by simp))
  have B := Lib.hid (newB (newB (Below.refl w.heap.size w) (.cells #[.int .i64 l, .int .i64 h] 43)) (.cells #[.int .i64 0, .int .i64 0, .int .i64 0, .int .i64 0] 80))
  simp only [stayS, St.val]
  go_enter Tryz.func66, Tryz.ntmps66
  go_wp2
  generalize (w.alloc (.cells #[.int .i64 l, .int .i64 h] 43)).alloc (.cells #[.int .i64 0, .int .i64 0, .int .i64 0, .int .i64 0] 80) = W at *
  refine wp_free 4 (by kernel_rfl) (by kernel_rfl) (by kernel_rfl) (by decide) ?_
  intro K hK
  repeat' (first
    | (refine Obl.row (by decide) rfl 43 _ rfl w.heap.size rfl 43 _ _ F.out Tryz.underlying43 rfl (by kernel_rfl) ?_)
    | (apply Obl.call (by decide) rfl; (intro w' hb; go_simp; exact ⟨rfl, rfl⟩); (intro w' hb; exact just_c _ w'))
    | (apply Obl.val (by decide) rfl; (intro w' hb; go_simp; rfl)))
  apply Obl.nil
  apply hK
  intro w2 hb
  simp only [Act.put, List.setIfInBounds_toArray, List.set_cons_zero, List.set_cons_succ, List.drop_succ_cons, List.drop_zero]
  clear hK K
  have Z2 := Lib.hid (Z.out.after hb)
  go_wp2_with (refine wpList_store_all rfl 80 _ _ rfl (w.heap.size + 1) rfl _ rfl 80 _ Z2.out (by kernel_rfl) rfl (by simp [Value.oneCell']) ?_)
  exact bodyPost_ret (results_cell_row Tryz.results66 _ _ (w.heap.size + 1) 80 _ (0, 0) _ rfl (Z2.out.setRow _) Tryz.underlying80 rfl (by kernel_rfl)) rfl ⟨rfl, rowB (nextB B.out hb) (by omega) _⟩

theorem rest_c (m : Int) (w : World) : Calls Tryz.prog 70 #[.int .i64 m] w fun e w' => e = .returned (stayS 0 0 m).val ∧ Below w.heap.size w w' := by
  have Z := Lib.hid (Has.new w 80 #[.int .i64 0, .int .i64 0, .int .i64 0, .int .i64 0])
  have B := Lib.hid (newB (Below.refl w.heap.size w) (.cells #[.int .i64 0, .int .i64 0, .int .i64 0, .int .i64 0] 80))
  simp only [stayS, St.val]
  go_enter Tryz.func70, Tryz.ntmps70
  go_wp2_with (first
    | (go_at_call 98; refine (just_c m _).mono ?_; rintro e w1 ⟨rfl, hb1⟩; have Z1 := Lib.hid (Z.out.after hb1); have B1 := Lib.hid (nextB B.out hb1); clear hb1)
    | (refine wpList_store_all rfl 80 _ _ rfl w.heap.size rfl _ rfl 80 _ Z1.out (by kernel_rfl) rfl (by simp [Value.oneCell']) ?_))
  exact bodyPost_ret (results_cell_row Tryz.results70 _ _ w.heap.size 80 _ (0, 0) _ rfl (Z1.out.setRow _) Tryz.underlying80 rfl (by kernel_rfl)) rfl ⟨rfl, rowB B1.out (by omega) _⟩

/-- What a stay at these depths for so long leaves, and whether it is safe to come up from there. -/
def limitP (ps rs : List Pr) (a : FS) (l h m : Int) : Bool := enterB ps rs (stayH a.1 (stayS l h m)) 0 (enterB ps rs a.1 (stayS l h m).dl a.2)

set_option maxHeartbeats 1000000 in
theorem limit1_c (t : Tm) (h : Nat → Int → Pr) (ho : FolOk t h) (bm : Nat) (kp : Bool) (fb sb : Nat) (l g d : Int) (hs : SOk (stayS l g d)) (w : World) (hi : t.In w) (hm : MapAt w bm (heldF t.rs h))
    (hf : Has w fb 108 (folC t (.map (some bm)) kp)) (hsp : Has w sb 43 #[.int .i64 l, .int .i64 g]) :
    Calls Tryz.prog 93 #[.int .i64 d, .pointer (some ⟨fb, 0, none⟩), .pointer (some ⟨sb, 0, none⟩)] w fun e w' => e = .returned (.bool (limitP t.ps t.rs (h, kp) l g d)) ∧ Below w.heap.size w w' := by
  have HX := Lib.hid fun (w' : World) (hb : Below w.heap.size w w') => stay_c t h ho (stayS l g d) hs bm kp w' (hi.keep hb) (hm.keep hb)
  have HY := Lib.hid fun (w' : World) (hb : Below w.heap.size w w') (b' : Nat) (hm' : MapAt w' b' (heldF t.rs (stayH h (stayS l g d)))) => safe_c t _ (ho.stay hs) b' (enterB t.ps t.rs h (stayS l g d).dl kp) w' (hi.keep hb) hm'
  have HF := Lib.hid hf; have HS := Lib.hid hsp
  clear hi hm ho hf hsp hs
  simp only [limitP]
  generalize enterB t.ps t.rs (stayH h (stayS l g d)) 0 (enterB t.ps t.rs h (stayS l g d).dl kp) = res at *
  generalize enterB t.ps t.rs h (stayS l g d).dl kp = eb at *
  unfold FolV at *
  generalize hfc : folC t (.map (some bm)) kp = fc at *
  obtain ⟨pA, sA, rA, pn, pc, sn, sc, rn, rc, ps, ss, rs⟩ := t
  simp only [folC] at hfc
  subst hfc
  go_enter Tryz.func93, Tryz.ntmps93
  go_wp2
  refine wp_free 4 (by kernel_rfl) (by kernel_rfl) (by kernel_rfl) (by decide) ?_
  intro K hK
  repeat' (first
    | (refine Obl.row (by decide) rfl 108 _ rfl fb rfl 108 _ _ HF.out Tryz.underlying108 rfl (by kernel_rfl) ?_)
    | (refine Obl.row (by decide) rfl 43 _ rfl sb rfl 43 _ _ HS.out Tryz.underlying43 rfl (by kernel_rfl) ?_)
    | (apply Obl.call (by decide) rfl; (intro w' hb; go_simp; exact ⟨rfl, rfl⟩); (intro w' hb; exact staying_c _ _ _ w'))
    | (apply Obl.val (by decide) rfl; (intro w' hb; go_simp; rfl)))
  apply Obl.nil
  apply hK
  intro w2 hb
  simp only [Act.put, List.setIfInBounds_toArray, List.set_cons_zero, List.set_cons_succ, List.drop_succ_cons, List.drop_zero]
  clear hK K
  have HB := Lib.hid hb
  clear hb
  go_wp2_with (first
    | (go_at_call 65; refine (HX.out _ HB.out).mono ?_; rintro e w3 ⟨b2, rfl, hM, hb3⟩; have HM := Lib.hid hM; have HB3 := Lib.hid (nextB HB.out hb3); clear hM hb3)
    | (go_at_call 60; refine (HY.out _ HB3.out _ HM.out).mono ?_; rintro e w4 ⟨rfl, hb4⟩; have HB4 := Lib.hid (nextB HB3.out hb4); clear hb4))
  go_ret
  exact ⟨rfl, HB4.out⟩
end Go.Proofs
namespace Go.Proofs
open Go.RowKit Go.Shelf Gas
attribute [local go_sem ↓] Go.wp_at_zero Go.wp_at_succ

def limitF (t : Tm) (l g : Int) : Int × Int := if definedB t.ps t.ss t.rs [] 0 && ordB l g 0 40 6 then (latV (lead (limitP t.ps t.rs (h0, true) l g)), latE (lead (limitP t.ps t.rs (h0, true) l g))) else (0, 2)
theorem SlOf.nil {α : Type} (f : α → List Value) (sz : Nat) (w : World) : SlOf f sz w none 0 [] := ⟨rfl, by simp [flat], fun h => absurd h (by omega)⟩
theorem stayS_ok {l g d : Int} (h : ordB l g 0 40 6 = true) (hd : 0 ≤ d ∧ d ≤ 1000) : SOk (stayS l g d) := by
  simp only [ordB, decide_eq_true_eq] at h
  exact ⟨by simp only [stayS]; omega, by simp only [stayS]; omega, by simp only [stayS]; omega⟩

set_option maxHeartbeats 4000000 in
theorem Limit_c (t : Tm) (ht : t.Small) (l g : Int) (w : World) (hi : t.In w) :
    Calls Tryz.prog 49 #[t.tab, t.man, .agg #[.int .i64 l, .int .i64 g]] w fun e w' => e = .returned (.tuple #[.int .i64 (limitF t l g).1, .int .i64 (limitF t l g).2]) ∧ Below w.heap.size w w' := by
  have HD := Lib.hid fun (w' : World) (hb : Below w.heap.size w w') => defined_c t ht none 0 0 [] 0 (by omega) (by omega) w' (hi.keep hb) (SlOf.nil _ _ _)
  have HOK := Lib.hid fun h => defined_ok ht hi (dive := []) (room := 0) h
  have B0 := Lib.hid (newB (newB (newB (Below.refl w.heap.size w) (.cells #[.slice t.pA t.pn t.pc, .slice t.sA t.sn t.sc] 25)) (.cells #[.slice t.rA t.rn t.rc] 28)) (.cells #[.int .i64 l, .int .i64 g] 43))
  have T0 := Lib.hid (((Has.new w 25 #[.slice t.pA t.pn t.pc, .slice t.sA t.sn t.sc]).alloc (.cells #[.slice t.rA t.rn t.rc] 28)).alloc (.cells #[.int .i64 l, .int .i64 g] 43))
  have M0 := Lib.hid ((Has.new' (w.alloc (.cells #[.slice t.pA t.pn t.pc, .slice t.sA t.sn t.sc] 25)) 28 #[.slice t.rA t.rn t.rc] (g := w.heap.size + 1) (by simp)).alloc (.cells #[.int .i64 l, .int .i64 g] 43))
  have S0 := Lib.hid (Has.new' ((w.alloc (.cells #[.slice t.pA t.pn t.pc, .slice t.sA t.sn t.sc] 25)).alloc (.cells #[.slice t.rA t.rn t.rc] 28)) 43 #[.int .i64 l, .int .i64 g] (g := w.heap.size + 1 + 1) (by simp))
  cases hdb : definedB t.ps t.ss t.rs [] 0
  · have HE := Lib.hid (show limitF t l g = (0, 2) by simp [limitF, hdb])
    rw [hdb] at HD
    rw [HE.out]
    clear hi HOK hdb
    obtain ⟨pA, sA, rA, pn, pc, sn, sc, rn, rc, ps, ss, rs⟩ := t
    simp only [Tm.tab, Tm.man] at *
    go_enter Tryz.func49, Tryz.ntmps49
    go_wp2_with (go_at_call 56; refine (HD.out _ B0.out).mono ?_; rintro e w1 ⟨rfl, hb1⟩; have HB1 := Lib.hid (nextB B0.out hb1); clear hb1)
    exact bodyPost_ret (results_tmp2 rfl _ _ _) rfl ⟨rfl, HB1.out⟩
  · rw [hdb] at HD
    cases ho : ordB l g 0 40 6
    · have HE := Lib.hid (show limitF t l g = (0, 2) by simp [limitF, ho])
      have HO := Lib.hid ho
      rw [HE.out]
      clear hi HOK hdb ho
      obtain ⟨pA, sA, rA, pn, pc, sn, sc, rn, rc, ps, ss, rs⟩ := t
      simp only [Tm.tab, Tm.man] at *
      go_enter Tryz.func49, Tryz.ntmps49
      go_wp2_with (first
        | (go_at_call 56; refine (HD.out _ B0.out).mono ?_; rintro e w1 ⟨rfl, hb1⟩; have HB1 := Lib.hid (nextB B0.out hb1); have cs := (S0.out.after hb1).cell; clear hb1)
        | (go_at_call 62; refine (deep_c l g _).mono ?_; rintro e w2 ⟨rfl, hb2⟩; rw [HO.out]; have HB2 := Lib.hid (nextB HB1.out hb2); clear hb2))
      exact bodyPost_ret (results_tmp2 rfl _ _ _) rfl ⟨rfl, HB2.out⟩
    · have HE := Lib.hid (show limitF t l g = (latV (lead (limitP t.ps t.rs (h0, true) l g)), latE (lead (limitP t.ps t.rs (h0, true) l g))) by simp [limitF, hdb, ho])
      rw [HE.out]
      obtain ⟨hok, _, _⟩ := HOK.out hdb
      have HO := Lib.hid ho
      have HBg := Lib.hid fun (w' : World) (hb : Below w.heap.size w w') => begin_c t hok w' (hi.keep hb)
      have HLa := Lib.hid fun (W : World) (hb : Below w.heap.size w W) (bm fb sb : Nat) (hm : MapAt W bm (heldF t.rs h0)) (hf : Has W fb 108 (folC t (.map (some bm)) true)) (hs : Has W sb 43 #[.int .i64 l, .int .i64 g]) =>
        latest_c 93 #[.pointer (some ⟨fb, 0, none⟩), .pointer (some ⟨sb, 0, none⟩)] (enters_of Tryz.func93 (by kernel_rfl) rfl) (limitP t.ps t.rs (h0, true) l g) (fun _ w' => Below W.heap.size W w')
          (fun d h1 h2 w' hb' => by
            have := limit1_c t h0 (h0_ok hok) bm true fb sb l g d (stayS_ok ho (by omega)) w' ((hi.keep hb).keep hb') (hm.keep hb') (hf.after hb') (hs.after hb')
            exact this.mono fun e w2 ⟨h3, h4⟩ => ⟨h3, nextB hb' h4⟩) W (Below.refl _ _)
      generalize lead (limitP t.ps t.rs (h0, true) l g) = ld at *
      clear hi HOK hdb ho hok
      obtain ⟨pA, sA, rA, pn, pc, sn, sc, rn, rc, ps, ss, rs⟩ := t
      have HFV := Lib.hid (show ∀ b k, FolV ⟨pA, sA, rA, pn, pc, sn, sc, rn, rc, ps, ss, rs⟩ b k = .agg #[.slice pA pn pc, .slice sA sn sc, .slice rA rn rc, .map (some b), .bool k] from fun _ _ => rfl)
      simp only [Tm.tab, Tm.man, folC] at *
      go_enter Tryz.func49, Tryz.ntmps49
      go_wp2_with (first
        | (go_at_call 56; refine (HD.out _ B0.out).mono ?_; rintro e w1 ⟨rfl, hb1⟩; have HB1 := Lib.hid (nextB B0.out hb1); have S1 := Lib.hid (S0.out.after hb1); have cs := S1.out.cell; have T1 := Lib.hid (T0.out.after hb1); have M1 := Lib.hid (M0.out.after hb1); clear hb1)
        | (go_at_call 62; refine (deep_c l g _).mono ?_; rintro e w2 ⟨rfl, hb2⟩; rw [HO.out]; have HB2 := Lib.hid (nextB HB1.out hb2); have S2 := Lib.hid (S1.out.after hb2); have ct := (T1.out.after hb2).cell; have cm := (M1.out.after hb2).cell; clear hb2)
        | (go_at_call 57; refine (HBg.out _ HB2.out).mono ?_; rintro e w3 ⟨bm, rfl, hM, hb3⟩; rw [HFV.out]; have HB3 := Lib.hid (newB (nextB HB2.out hb3) (.cells #[.slice pA pn pc, .slice sA sn sc, .slice rA rn rc, .map (some bm), .bool true] 108)); have HM := Lib.hid (hM.keep (newB (Below.refl _ _) (.cells #[.slice pA pn pc, .slice sA sn sc, .slice rA rn rc, .map (some bm), .bool true] 108))); have S3 := Lib.hid ((S2.out.after hb3).alloc (.cells #[.slice pA pn pc, .slice sA sn sc, .slice rA rn rc, .map (some bm), .bool true] 108)); clear hM hb3)
        | (go_at_call 63; refine (HLa.out _ HB3.out bm w3.heap.size (w.heap.size + 1 + 1) HM.out (Has.new w3 108 _) S3.out).mono ?_; rintro e w4 ⟨rfl, hb4⟩; have HB4 := Lib.hid (nextB HB3.out hb4); clear hb4))
      exact bodyPost_ret (results_tmp2 rfl _ _ _) rfl ⟨rfl, HB4.out⟩
end Go.Proofs
