/-
  Contracts of the specification's Begin, After, follow, Over, Worst, Surely and Limit hold where table, man and stages are as defined.
-/
import Derived.Test.YtahochgbkhpefabGreatDoorP12
import Derived.Test.YtahochgbkhpefabGreatDoorP1
import Derived.Test.YtahochgbkhpefabGreatDoorP9
namespace Go.Proofs
open Go.RowKit Go.Shelf Gas

/-- The boxes of a table, a man and a span, as a law lays them first. -/
structure Bx (w : World) (t : Tm) (l g : Int) (W : World) : Prop where
  below : Below w.heap.size w W
  tab : Has W w.heap.size 25 #[.slice t.pA t.pn t.pc, .slice t.sA t.sn t.sc]
  man : Has W (w.heap.size + 1) 28 #[.slice t.rA t.rn t.rc]
  sp : Has W (w.heap.size + 1 + 1) 43 #[.int .i64 l, .int .i64 g]
theorem Bx.keep {w W W' : World} {t : Tm} {l g : Int} (h : Bx w t l g W) (hb : Below W.heap.size W W') : Bx w t l g W' := ⟨nextB h.below hb, h.tab.after hb, h.man.after hb, h.sp.after hb⟩
theorem Bx.start (w : World) (t : Tm) (l g : Int) : Bx w t l g (((w.alloc (.cells #[.slice t.pA t.pn t.pc, .slice t.sA t.sn t.sc] 25)).alloc (.cells #[.slice t.rA t.rn t.rc] 28)).alloc (.cells #[.int .i64 l, .int .i64 g] 43)) :=
  ⟨newB (newB (newB (Below.refl _ _) _) _) _, ((Has.new w 25 _).alloc _).alloc _, (Has.new' _ 28 _ (by simp)).alloc _, Has.new' _ 43 _ (by simp)⟩

end Go.Proofs
namespace Go.Proofs
open Go.RowKit Go.Shelf Gas
attribute [local go_sem ↓] Go.wp_at_zero Go.wp_at_succ

/-- A body of the specification: its part, its rate, what it holds. -/
structure Bd where
  (p r lo hi : Int)
def Bd.cs (b : Bd) : List Value := [.int .i64 b.p, .int .i64 b.r, .int .i64 b.lo, .int .i64 b.hi]
theorem Bd.cs_len (b : Bd) : b.cs.length = 4 := rfl
theorem Bd.one (b : Bd) : ∀ u ∈ b.cs, u.oneCell' = true := by simp [Bd.cs, Value.oneCell']
def bodiesK (h : Nat → Int → Pr) (k : Nat) (lo : Int) (n : Nat) : List Bd := (ratesL lo n).map fun x => ⟨k, x, (h k x).1, (h k x).2⟩
def bodiesTo (rs : List Pr) (h : Nat → Int → Pr) : Nat → List Bd
  | 0 => []
  | k + 1 => bodiesTo rs h k ++ bodiesK h k (rs.getD k (0, 0)).1 (ratesN (rs.getD k (0, 0)).1 (rs.getD k (0, 0)).2)
def bodiesL (rs : List Pr) (h : Nat → Int → Pr) : List Bd := bodiesTo rs h rs.length
theorem bodiesK_succ (h : Nat → Int → Pr) (k : Nat) (lo : Int) (n : Nat) : bodiesK h k lo (n + 1) = bodiesK h k lo n ++ [⟨k, lo + n, (h k (lo + n)).1, (h k (lo + n)).2⟩] := by simp [bodiesK, ratesL_succ]
theorem bodiesK_len (h : Nat → Int → Pr) (k : Nat) (lo : Int) (n : Nat) : (bodiesK h k lo n).length = n := by simp [bodiesK, ratesL]
theorem rate_wide {rs : List Pr} (hr : rs.all rateB = true) {k : Nat} (hk : k < rs.length) : 1 ≤ (rs.getD k (0, 0)).1 ∧ (rs.getD k (0, 0)).1 ≤ (rs.getD k (0, 0)).2 ∧ (rs.getD k (0, 0)).2 ≤ 400 ∧ ratesN (rs.getD k (0, 0)).1 (rs.getD k (0, 0)).2 ≤ 13 := by
  have hx := List.getElem?_eq_getElem hk
  have hg : rs.getD k (0, 0) = rs[k] := by simp [List.getD_eq_getElem?_getD, hx]
  have := List.all_eq_true.1 hr _ (List.getElem_mem hk)
  rw [hg]
  simp only [rateB, ordB, decide_eq_true_eq] at this
  unfold ratesN
  omega
theorem bodiesTo_len {rs : List Pr} (hr : rs.all rateB = true) (h : Nat → Int → Pr) : ∀ k, k ≤ rs.length → (bodiesTo rs h k).length ≤ 13 * k
  | 0, _ => by simp [bodiesTo]
  | k + 1, hk => by
    have a := bodiesTo_len hr h k (by omega)
    have b := (rate_wide hr (k := k) (by omega)).2.2.2
    simp only [bodiesTo, List.length_append, bodiesK_len]
    omega

theorem info175 : ∃ i, Tryz.prog.info? 183 = some i ∧ i.zero = some (.agg #[.int .i64 0, .int .i64 0, .int .i64 0, .int .i64 0]) ∧ i.bytes = 32 ∧ i.size = 4 := by
  have h : (Tryz.prog.info? 183).isSome = true := by kernel_rfl
  exact ⟨(Tryz.prog.info? 183).get h, (Option.some_get _).symm, by kernel_rfl, by kernel_rfl, by kernel_rfl⟩
theorem wpList_app136 {ops : Array Oper} {rest : List Oper} {o : Oper} {a : Act} {w : World} {Q : Exit → Act → World → Prop} (hgd : o.guard = none) (s x : Operand)
    (ho : o.op = .call { callee := .builtin .append, args := #[s, x], argTypes := #[148, 148] })
    (base : Nat) (v : Value) (xs : List Bd) (hs : a.eval s = v) (hown : w.ownsRow base 183 4 v xs.length (flat Bd.cs xs)) (hlen : xs.length ≤ 20000000)
    (b : Nat) (y : Bd) (hx : a.eval x = .slice (some ⟨b, 0, none⟩) 1 1) (hb : Has w b 183 #[.int .i64 y.p, .int .i64 y.r, .int .i64 y.lo, .int .i64 y.hi]) (hbase : base ≤ w.heap.size)
    (h : ∀ v' w', w'.ownsRow base 183 4 v' (xs ++ [y]).length (flat Bd.cs (xs ++ [y])) → Below base w w' → Spares w w' 183 → wpList Tryz.prog ops Q rest (a.put o.dst v') w') : wpList Tryz.prog ops Q (o :: rest) a w := by
  obtain ⟨i, hi, hz, hby, hsz⟩ := info175
  refine wpList_append_own w hgd s x 148 ho base 183 i _ 4 32 (by kernel_rfl) hi hz hsz hby rfl (by omega) v xs.length _ hs hown ⟨b, 0, none⟩ 1 1 y.cs hx rfl ?_ (Bd.one y) (by unfold maxLen; omega) (by omega) hbase
    (fun v' w' e1 e2 _ => h v' w' (by rw [flat_append]; simpa [flat] using e1) (below_grown e2 (fun r hr => (hown.lt r hr).1) hbase) (Spares.of_grown hown e2))
  intro j u hu
  have hadd : (⟨b, 0, none⟩ : Addr).add j = ⟨b, j, none⟩ := by unfold Addr.add; split <;> simp_all
  rw [hadd, hb.cell j]
  simpa [Bd.cs] using hu
/-- What a call has made: a list of bodies. -/
def OwnsBd (w0 : World) (xs : List Bd) (e : Ending) (w' : World) : Prop := ∃ v, e = .returned v ∧ w'.ownsRow w0.heap.size 183 4 v xs.length (flat Bd.cs xs) ∧ Below w0.heap.size w0 w'
theorem owns_sl {α : Type} {f : α → List Value} {sz : Nat} {w : World} {base : Nat} {t : TypeId} {v : Value} {n : Nat} {xs : List α} (hn : xs.length = n) (h : w.ownsRow base t sz v n (flat f xs)) : ∃ A c, v = .slice A n c ∧ SlOf f sz w A n xs ∧ (A = none → c = 0) := by
  rcases h.2 with ⟨rfl, rfl⟩ | ⟨g, cap, cur, rfl, _, h3, _, _, _, h7⟩
  · exact ⟨none, 0, rfl, ⟨hn, h.1, fun h => absurd h (by omega)⟩, fun _ => rfl⟩
  · refine ⟨some ⟨g, 0, none⟩, cap, rfl, ⟨hn, h.1, fun _ => ⟨g, 0, rfl, fun j u hu => ?_⟩⟩, fun h => by cases h⟩
    rw [← h7, List.getElem?_take] at hu
    split at hu
    · rw [Nat.zero_add, Has.cell h3 j, ← Array.getElem?_toList]; exact hu
    · cases hu

set_option maxHeartbeats 2000000 in
set_option maxRecDepth 20000 in
theorem refBegin_c (A : Option Addr) (n c : Nat) (rs : List Pr) (hn : n ≤ 1000000) (hr : rs.all rateB = true) (w : World) (hR : SlOf prC 2 w A n rs) : Calls Tryz.prog 103 #[.agg #[.slice A n c]] w (OwnsBd w (bodiesL rs h0)) := by
  have HS := Lib.hid hR; have HN := Lib.hid hR.1
  have HW := Lib.hid fun (k : Nat) (hk : k < rs.length) => rate_wide hr hk
  have HL := Lib.hid (bodiesTo_len hr h0)
  have hrl := hR.1
  clear hR
  have h0' : (w.alloc (.cells #[.slice A n c] 28)).ownsRow w.heap.size 183 4 (.slice none 0 0) ([] : List Bd).length (flat Bd.cs []) := World.ownsRow_nil _ _ _ _
  have B0 := Lib.hid (newB (Below.refl w.heap.size w) (.cells #[.slice A n c] 28))
  have M0 := Lib.hid (Has.new w 28 #[.slice A n c])
  go_enter Tryz.func103, Tryz.ntmps103
  go_wp2
  go_loopw [3, 4] (fun v i wr => ∃ k : Nat, k ≤ n ∧ i = .int .i64 k ∧ wr.ownsRow w.heap.size 183 4 v (bodiesTo rs h0 k).length (flat Bd.cs (bodiesTo rs h0 k)) ∧ Below w.heap.size w wr ∧ Has wr w.heap.size 28 #[.slice A n c]) (fun _ i _ => n - (intOf i).toNat)
  case atStart => exact ⟨0, by omega, rfl, h0', B0.out, M0.out⟩
  case round =>
    obtain ⟨k, hk, rfl, hO, hB, hM⟩ := hrel
    have HB := Lib.hid hB; have HO := Lib.hid hO; have HM := Lib.hid hM
    have cm := hM.cell
    have hz := hB.size
    clear hB hO hM h0'
    by_cases hkn : k < n
    · have hkl : k < rs.length := by omega
      obtain ⟨b, o, he⟩ := HS.out.addr (by omega)
      have hx := List.getElem?_eq_getElem hkl
      have hgd : rs.getD k (0, 0) = rs[k] := by simp [List.getD_eq_getElem?_getD, hx]
      have hwd := HW.out k hkl
      obtain ⟨x, hxx⟩ : ∃ x, x = rs[k] := ⟨_, rfl⟩
      rw [← hxx] at hx hgd
      rw [hgd] at hwd
      obtain ⟨x0, x1⟩ := x
      have HG := Lib.hid hgd
      subst he
      have CC := Lib.hid fun (W : World) (hb : Below w.heap.size w W) => (show W.cell? ⟨b, o + k * 2, none⟩ = some (.int .i64 x0) ∧ W.cell? ⟨b, o + k * 2 + 1, none⟩ = some (.int .i64 x1) from ⟨by simpa using ((HS.out.keep hb).range prC_len hx) 0 _ rfl, ((HS.out.keep hb).range prC_len hx) 1 _ rfl⟩)
      have hc0 := (CC.out wr HB.out).1
      clear hx hxx hgd
      simp only at hwd
      obtain ⟨w0, w1, w2, w3⟩ := hwd
      have W3 := Lib.hid w3
      have hN : ((ratesN x0 x1 : Nat) : Int) = x1 + 1 - x0 := by unfold ratesN; omega
      obtain ⟨N, hNN⟩ : ∃ N, N = ratesN x0 x1 := ⟨_, rfl⟩
      rw [← hNN] at hN
      have HNN := Lib.hid hNN
      have hNB : N ≤ 13 := by rw [hNN]; exact w3
      clear w3 hNN
      have HLk := Lib.hid (HL.out k (by omega))
      obtain ⟨wo, rfl⟩ : ∃ wo : World, wo = wr := ⟨_, rfl⟩
      go_wp2
      go_loopw [3, 5] (fun v y wr => ∃ j : Nat, j ≤ N ∧ y = .int .i64 (x0 + j) ∧ wr.ownsRow w.heap.size 183 4 v (bodiesTo rs h0 k ++ bodiesK h0 k x0 j).length (flat Bd.cs (bodiesTo rs h0 k ++ bodiesK h0 k x0 j)) ∧ Below w.heap.size w wr ∧ Has wr w.heap.size 28 #[.slice (some ⟨b, o, none⟩) n c]) (fun _ y _ => (x1 + 1 - intOf y).toNat)
      case atStart => exact ⟨0, by omega, by simp, by simpa [bodiesK, ratesL] using HO.out, HB.out, HM.out⟩
      case round =>
        obtain ⟨j, hj, rfl, hO2, hB2, hM2⟩ := hrel
        have HB2 := Lib.hid hB2; have HO2 := Lib.hid hO2; have HM2 := Lib.hid hM2
        have cm2 := hM2.cell
        have hc1 := (CC.out wr HB2.out).2
        clear hO2 hB2 hM2 cm hc0
        by_cases hjn : j < N
        · have hle : x0 + (j : Int) ≤ x1 := by omega
          go_wp2_with (at_builtin; refine wpList_app136 rfl _ _ rfl w.heap.size u3 (bodiesTo rs h0 k ++ bodiesK h0 k x0 j) rfl (HO2.out.alloc _) (by rw [List.length_append, bodiesK_len]; have := HLk.out; omega) wr.heap.size ⟨k, x0 + j, 1000, 1000⟩ rfl (Has.new wr 183 _) (newB HB2.out _).size ?_; intro v3 w3 ho3 hb3 hsp; have HO3 := Lib.hid ho3; have HB3 := Lib.hid ((newB HB2.out (.cells #[.int .i64 k, .int .i64 (x0 + j), .int .i64 1000, .int .i64 1000] 183)).trans hb3); have HM3 := Lib.hid (hsp.has (HM2.out.alloc (.cells #[.int .i64 k, .int .i64 (x0 + j), .int .i64 1000, .int .i64 1000] 183)) (by decide)); clear ho3 hb3 hsp)
          go_roundw
          case rel => exact ⟨j + 1, by omega, by go_num, by rw [bodiesK_succ, ← List.append_assoc]; exact HO3.out, HB3.out, HM3.out⟩
          case measure => simp [intOf]; omega
        · have hje : j = N := by omega
          have hle : ¬ x0 + (j : Int) ≤ x1 := by omega
          go_wp2
          go_roundw
          case rel => exact ⟨k + 1, by omega, by go_num, by simp only [bodiesTo]; rw [HG.out, ← HNN.out, ← hje]; exact HO2.out, HB2.out, HM2.out⟩
          case measure => simp [intOf]; omega
    · have hke : k = n := by omega
      subst hke
      go_wp2
      exact bodyPost_ret (results_tmp rfl _ _ _) rfl ⟨_, rfl, by unfold bodiesL; rw [HN.out]; exact HO.out, HB.out⟩
end Go.Proofs
namespace Go.Proofs
open Go.RowKit Go.Shelf Gas
attribute [local go_sem ↓] Go.wp_at_zero Go.wp_at_succ

theorem allowed_c (l s d : Int) (hl : 0 ≤ l ∧ l ≤ 20000) (hs : 0 ≤ s ∧ s ≤ 400) (hd : 0 ≤ d ∧ d ≤ 100) (w : World) :
    Calls Tryz.prog 124 #[.agg #[.int .i64 l, .int .i64 s], .int .i64 d] w fun e w' => e = .returned (.int .i64 (l + s * d)) ∧ Below w.heap.size w w' := by
  have hb := slope_bd hs hd
  obtain ⟨b0, b1⟩ := hb
  obtain ⟨l0, l1⟩ := hl
  have hw : IntKind.i64.wrap (s * d) = s * d := wI (by omega) (by omega)
  go_enter Tryz.func124, Tryz.ntmps124
  go_wp2
  exact bodyPost_ret (results_tmp rfl _ _ _) rfl ⟨rfl, newB (Below.refl _ _) _⟩

/-- The first part that can hold too much. -/
def excB (ps : List Pr) (d : Int) (b : Bd) : Bool := decide (b.hi > (ps.getD b.p.toNat (0, 0)).1 + (ps.getD b.p.toNat (0, 0)).2 * d)
def overL (ps : List Pr) (d : Int) : List Bd → Int
  | [] => -1
  | b :: l => if excB ps d b then b.p else overL ps d l
structure BdOk (pn : Nat) (b : Bd) : Prop where
  p : 0 ≤ b.p ∧ b.p < pn
  r : 0 ≤ b.r ∧ b.r ≤ 1000
  v : vOk (b.lo, b.hi)
theorem overL_drop (ps : List Pr) (d : Int) (xs : List Bd) (k : Nat) (h : k < xs.length) : overL ps d (xs.drop k) = if excB ps d xs[k] then xs[k].p else overL ps d (xs.drop (k + 1)) := by
  rw [List.drop_eq_getElem_cons h]
  rfl

set_option maxHeartbeats 2000000 in
set_option maxRecDepth 20000 in
theorem over_c (pA sA A : Option Addr) (pn pc sn sc n c : Nat) (ps : List Pr) (xs : List Bd) (d : Int) (hd : 0 ≤ d ∧ d ≤ 100) (hn : n ≤ 20000000) (hpn : pn ≤ 1000000) (hps : ps.all partB = true) (hok : ∀ b ∈ xs, BdOk pn b) (w : World) (hp : SlOf prC 2 w pA pn ps) (hx : SlOf Bd.cs 4 w A n xs) :
    Calls Tryz.prog 104 #[.agg #[.slice pA pn pc, .slice sA sn sc], .slice A n c, .int .i64 d] w fun e w' => e = .returned (.int .i64 (overL ps d xs)) ∧ Below w.heap.size w w' := by
  have HP := Lib.hid hp; have HX := Lib.hid hx
  have HN := Lib.hid hx.1; have HPN := Lib.hid hp.1
  have HOK := Lib.hid hok
  have HPS := Lib.hid hps
  have hln := hx.1
  clear hp hx hok hps
  have B0 := Lib.hid (newB (Below.refl w.heap.size w) (.cells #[.slice pA pn pc, .slice sA sn sc] 25))
  have T0 := Lib.hid (Has.new w 25 #[.slice pA pn pc, .slice sA sn sc])
  go_enter Tryz.func104, Tryz.ntmps104
  go_wp2
  go_loopw [7] (fun v wr => ∃ k : Nat, k ≤ n ∧ v = .int .i64 k ∧ Below w.heap.size w wr ∧ Has wr w.heap.size 25 #[.slice pA pn pc, .slice sA sn sc] ∧ overL ps d xs = overL ps d (xs.drop k)) (fun v _ => n - (intOf v).toNat)
  case atStart => exact ⟨0, by omega, rfl, B0.out, T0.out, by simp⟩
  case round =>
    obtain ⟨k, hk, rfl, hB, hT, hE⟩ := hrel
    have HB := Lib.hid hB; have HT := Lib.hid hT; have HE := Lib.hid hE
    clear hB hT hE
    by_cases hkn : k < n
    · have hkl : k < xs.length := by omega
      have HDr := Lib.hid (overL_drop ps d xs k hkl)
      obtain ⟨b, o, he⟩ := HX.out.addr (by omega)
      have hx := List.getElem?_eq_getElem hkl
      have hbo := HOK.out _ (List.getElem_mem hkl)
      obtain ⟨x, hxx⟩ : ∃ x, x = xs[k] := ⟨_, rfl⟩
      rw [← hxx] at hx hbo HDr
      obtain ⟨bp, br, blo, bhi⟩ := x
      obtain ⟨⟨q0, q1⟩, _, _, _, v2, v3⟩ := hbo
      simp only at q0 q1 v2 v3
      obtain ⟨p, rfl⟩ := Int.eq_ofNat_of_zero_le q0
      have hpp : p < pn := by omega
      have hpl : p < ps.length := by rw [HPN.out]; exact hpp
      obtain ⟨b2, o2, he2⟩ := HP.out.addr (by omega)
      have hy := List.getElem?_eq_getElem hpl
      have hgd : ps.getD p (0, 0) = ps[p] := by simp [List.getD_eq_getElem?_getD, hy]
      have hpb := List.all_eq_true.1 HPS.out _ (List.getElem_mem hpl)
      obtain ⟨y, hyy⟩ : ∃ y, y = ps[p] := ⟨_, rfl⟩
      rw [← hyy] at hy hgd hpb
      obtain ⟨y0, y1⟩ := y
      simp only [partB, inB, Bool.and_eq_true, decide_eq_true_eq] at hpb
      subst he; subst he2
      have CB := Lib.hid fun (W : World) (hb : Below wr.heap.size wr W) => (show W.cell? ⟨b, o + k * 4, none⟩ = some (.int .i64 p) ∧ W.cell? ⟨b, o + k * 4 + 2 + 1, none⟩ = some (.int .i64 bhi) from ⟨by simpa using ((HX.out.keep (nextB HB.out hb)).range Bd.cs_len hx) 0 _ rfl, ((HX.out.keep (nextB HB.out hb)).range Bd.cs_len hx) 3 _ rfl⟩)
      have CP := Lib.hid fun (W : World) (hb : Below wr.heap.size wr W) => (show W.cell? ⟨b2, o2 + p * 2, none⟩ = some (.int .i64 y0) ∧ W.cell? ⟨b2, o2 + p * 2 + 1, none⟩ = some (.int .i64 y1) from ⟨by simpa using ((HP.out.keep (nextB HB.out hb)).range prC_len hy) 0 _ rfl, ((HP.out.keep (nextB HB.out hb)).range prC_len hy) 1 _ rfl⟩)
      have HA := Lib.hid fun (W : World) => allowed_c y0 y1 d hpb.1 hpb.2 hd W
      have HEX := Lib.hid (show excB ps d ⟨p, br, blo, bhi⟩ = decide (bhi > y0 + y1 * d) by simp only [excB, Int.toNat_natCast, hgd])
      have hsd := slope_bd hpb.2 hd
      obtain ⟨s0, s1⟩ := hsd
      obtain ⟨⟨l0, l1⟩, _⟩ := hpb
      clear hx hxx hy hyy hgd
      have hbp := (CB.out wr (Below.refl _ _)).1
      have ct := HT.out.cell
      generalize y0 + y1 * d = al at *
      by_cases hex : al < bhi
      all_goals
        have HQ := Lib.hid hex
        clear hex
        go_wp2
        refine wp_free 18 (by kernel_rfl) (by kernel_rfl) (by kernel_rfl) (by decide) ?_
        intro K hK
        iterate 16 (apply Obl.val (by decide) (by kernel_rfl); (intro w' hb; have := (HT.out.after hb).cell; have := (CB.out w' hb).1; have := (CB.out w' hb).2; have := (CP.out w' hb).1; have := (CP.out w' hb).2; go_simp; rfl))
        (apply Obl.call (f := 124) (by decide) (by kernel_rfl); (intro w' hb; go_simp; exact rfl); (intro w' hb; exact HA.out w'))
        (apply Obl.val (by decide) (by kernel_rfl); (intro w' hb; go_simp; rfl))
        apply Obl.nil
        apply hK
        intro w2 hb
        simp only [Act.put, List.setIfInBounds_toArray, List.set_cons_zero, List.set_cons_succ, List.drop_succ_cons, List.drop_zero]
        clear hK K
        have HB2 := Lib.hid (nextB HB.out hb); have HT2 := Lib.hid (HT.out.after hb)
        have hq := HQ.out
        have hbp2 := (CB.out w2 hb).1
        clear hb hbp ct
        go_wp2
      · exact bodyPost_ret (results_tmp rfl _ _ _) rfl ⟨by rw [HE.out, HDr.out, HEX.out, decide_eq_true HQ.out]; rfl, HB2.out⟩
      · go_roundw
        case rel => exact ⟨k + 1, by omega, by go_num, HB2.out, HT2.out, by rw [HE.out, HDr.out, HEX.out, show decide (bhi > al) = false by have := HQ.out; simpa using this]; rfl⟩
        case measure => simp [intOf]; omega
    · go_wp2
      have hke : k = n := by omega
      subst hke
      exact bodyPost_ret (results_tmp rfl _ _ _) rfl ⟨by rw [HE.out, List.drop_eq_nil_of_le (by omega)]; rfl, HB.out⟩
end Go.Proofs
namespace Go.Proofs
open Go.RowKit Go.Shelf Gas
attribute [local go_sem ↓] Go.wp_at_zero Go.wp_at_succ

/-- A body after a stage. -/
def aftB (s : St) (b : Bd) : Bd := ⟨b.p, b.r, (aftP s b.r (b.lo, b.hi)).1, (aftP s b.r (b.lo, b.hi)).2⟩
theorem over4 (a b c d u v : Value) : over #[a, b, c, d] 2 #[u, v] = #[a, b, u, v] := rfl
theorem take_map_succ {α β : Type} (f : α → β) (xs : List α) (k : Nat) (h : k < xs.length) : (xs.take (k + 1)).map f = (xs.take k).map f ++ [f xs[k]] := by
  rw [List.take_succ_eq_append_getElem h, List.map_append]; rfl

set_option maxHeartbeats 4000000 in
set_option maxRecDepth 50000 in
theorem refAfter_c (A : Option Addr) (n c : Nat) (xs : List Bd) (dl dh mh : Int) (m d pn : Nat) (hdl : 0 ≤ dl ∧ dl ≤ 40) (hdh : 0 ≤ dh ∧ dh ≤ 40) (hm : m ≤ 1000) (hd : mh = m + d) (hd2 : d ≤ 1000) (hn : n ≤ 10000000) (hok : ∀ b ∈ xs, BdOk pn b) (w : World) (hx : SlOf Bd.cs 4 w A n xs) :
    Calls Tryz.prog 105 #[.slice A n c, .agg #[.int .i64 dl, .int .i64 dh, .int .i64 m, .int .i64 mh]] w (OwnsBd w (xs.map (aftB ⟨dl, dh, m, mh⟩))) := by
  have HX := Lib.hid hx; have HN := Lib.hid hx.1; have HOK := Lib.hid hok
  have hln := hx.1
  have HD := Lib.hid hd
  clear hx hok hd
  have B0 := Lib.hid (newB (Below.refl w.heap.size w) (.cells #[.int .i64 dl, .int .i64 dh, .int .i64 m, .int .i64 mh] 80))
  have S0 := Lib.hid (Has.new w 80 #[.int .i64 dl, .int .i64 dh, .int .i64 m, .int .i64 mh])
  have h0' : (w.alloc (.cells #[.int .i64 dl, .int .i64 dh, .int .i64 m, .int .i64 mh] 80)).ownsRow w.heap.size 183 4 (.slice none 0 0) ([] : List Bd).length (flat Bd.cs []) := World.ownsRow_nil _ _ _ _
  go_enter Tryz.func105, Tryz.ntmps105
  go_wp2
  go_loopw [5, 6] (fun v i wr => ∃ k : Nat, k ≤ n ∧ i = .int .i64 k ∧ wr.ownsRow w.heap.size 183 4 v ((xs.take k).map (aftB ⟨dl, dh, m, mh⟩)).length (flat Bd.cs ((xs.take k).map (aftB ⟨dl, dh, m, mh⟩))) ∧ Below w.heap.size w wr ∧ Has wr w.heap.size 80 #[.int .i64 dl, .int .i64 dh, .int .i64 m, .int .i64 mh]) (fun _ i _ => n - (intOf i).toNat)
  case atStart => exact ⟨0, by omega, rfl, h0', B0.out, S0.out⟩
  case round =>
    obtain ⟨k, hk, rfl, hO, hB, hS⟩ := hrel
    have HB := Lib.hid hB; have HO := Lib.hid hO; have HS := Lib.hid hS
    have hz := hB.size; have hzs := hS.lt
    clear hB hO hS h0'
    by_cases hkn : k < n
    · have hkl : k < xs.length := by omega
      have HTk := Lib.hid (take_map_succ (aftB ⟨dl, dh, m, mh⟩) xs k hkl)
      have HLk := Lib.hid (show ((xs.take k).map (aftB ⟨dl, dh, m, mh⟩)).length ≤ 20000000 by simp; omega)
      obtain ⟨b, o, he⟩ := HX.out.addr (by omega)
      have hx := List.getElem?_eq_getElem hkl
      have hbo := HOK.out _ (List.getElem_mem hkl)
      obtain ⟨x, hxx⟩ : ∃ x, x = xs[k] := ⟨_, rfl⟩
      rw [← hxx] at hx hbo HTk
      obtain ⟨bp, br, blo, bhi⟩ := x
      obtain ⟨_, hr, v0, v1, v2, v3⟩ := hbo
      simp only at hr v0 v1 v2 v3
      subst he
      have hR := Lib.hid (show wr.rangeAt b (o + k * 4) [.int .i64 bp, .int .i64 br, .int .i64 blo, .int .i64 bhi] from (HX.out.keep HB.out).range Bd.cs_len hx)
      have HAF := Lib.hid (show aftB ⟨dl, dh, m, mh⟩ ⟨bp, br, blo, bhi⟩ = ⟨bp, br, (allF blo bhi br dl dh m d).1, (allF blo bhi br dl dh m d).2⟩ by
        have := HD.out
        have e1 : (mh - (m : Int)).toNat = d := by omega
        simp only [aftB, aftP, Int.toNat_natCast, e1])
      have HL := Lib.hid fun n => loadF_bd (B := 20000) (n := n) (r := br) (d := dl) (h := blo) hr hdl.1 v0 v1 (by unfold pres; omega)
      have HH := Lib.hid fun n => loadF_bd (B := 20000) (n := n) (r := br) (d := dh) (h := bhi) hr hdh.1 v2 v3 (by unfold pres; omega)
      clear hx hxx
      obtain ⟨wo, rfl⟩ : ∃ wo : World, wo = wr := ⟨_, rfl⟩
      have BX := Lib.hid (box_has (W := wo) #[.int .i64 0, .int .i64 0, .int .i64 0, .int .i64 0] #[.int .i64 bp, .int .i64 br, .int .i64 blo, .int .i64 bhi] 183)
      have BB := Lib.hid (box_below (W := wo) #[.int .i64 0, .int .i64 0, .int .i64 0, .int .i64 0] #[.int .i64 bp, .int .i64 br, .int .i64 blo, .int .i64 bhi] 183)
      go_wp2_with (first
        | (refine wpList_load_mid rfl 183 _ rfl b (o + k * 4) rfl _ _ hR.out Tryz.underlying183 rfl (by kernel_rfl) ?_)
        | (refine wpList_store_all rfl 183 _ _ rfl wo.heap.size rfl _ rfl 183 _ (Has.new wo 183 _) (by kernel_rfl) rfl (by simp [Value.oneCell']) ?_))
      generalize (wo.alloc (.cells #[.int .i64 0, .int .i64 0, .int .i64 0, .int .i64 0] 183)).setRow wo.heap.size #[.int .i64 bp, .int .i64 br, .int .i64 blo, .int .i64 bhi] = W1 at *
      have HS1 := Lib.hid (HS.out.after BB.out)
      have hne : w.heap.size ≠ wo.heap.size := by omega
      have HLo := Lib.hid fun (W : World) => refLoad_c blo br dl m ⟨v0, v1⟩ hr (by omega) (by omega) W
      have HHi := Lib.hid fun (W : World) => refLoad_c bhi br dh m ⟨v2, v3⟩ hr (by omega) (by omega) W
      refine wp_free 26 (by kernel_rfl) (by kernel_rfl) (by kernel_rfl) (by decide) ?_
      intro K hK
      iterate 11 (apply Obl.val (by decide) (by kernel_rfl); (intro w' hb; have := (BX.out.after hb).cell; have := (HS1.out.after hb).cell; go_simp; rfl))
      (apply Obl.call (f := 125) (by decide) (by kernel_rfl); (intro w' hb; go_simp; exact rfl); (intro w' hb; exact same_calls (HLo.out w')))
      iterate 11 (apply Obl.val (by decide) (by kernel_rfl); (intro w' hb; have := (BX.out.after hb).cell; have := (HS1.out.after hb).cell; go_simp; rfl))
      (apply Obl.call (f := 125) (by decide) (by kernel_rfl); (intro w' hb; go_simp; exact rfl); (intro w' hb; exact same_calls (HHi.out w')))
      iterate 2 (apply Obl.val (by decide) (by kernel_rfl); (intro w' hb; go_simp; rfl))
      apply Obl.nil
      apply hK
      intro w2 hb
      simp only [Act.put, List.setIfInBounds_toArray, List.set_cons_zero, List.set_cons_succ, List.drop_succ_cons, List.drop_zero]
      clear hK K
      have BX2 := Lib.hid (BX.out.after hb); have HS2 := Lib.hid (HS1.out.after hb); have BB2 := Lib.hid (nextB BB.out hb)
      have HS3 := Lib.hid (HS2.out.setRow_far hne (over #[.int .i64 bp, .int .i64 br, .int .i64 blo, .int .i64 bhi] 2 #[.int .i64 (loadF blo br dl m), .int .i64 (loadF bhi br dh m)]))
      have cs3 := HS3.out.cell
      clear hb
      go_wp2_with (refine wpList_store_part rfl 43 _ _ rfl wo.heap.size 2 rfl _ rfl 183 _ BX2.out (by kernel_rfl) (by simp) (by simp [Value.oneCell']) ?_)
      have BX3 := Lib.hid ((BX2.out.setRow (over #[.int .i64 bp, .int .i64 br, .int .i64 blo, .int .i64 bhi] 2 #[.int .i64 (loadF blo br dl m), .int .i64 (loadF bhi br dh m)])).eq (over4 _ _ _ _ _ _))
      have BB3 := Lib.hid (rowB BB2.out (Nat.le_refl _) (over #[.int .i64 bp, .int .i64 br, .int .i64 blo, .int .i64 bhi] 2 #[.int .i64 (loadF blo br dl m), .int .i64 (loadF bhi br dh m)]))
      generalize w2.setRow wo.heap.size (over #[.int .i64 bp, .int .i64 br, .int .i64 blo, .int .i64 bhi] 2 #[.int .i64 (loadF blo br dl m), .int .i64 (loadF bhi br dh m)]) = W3 at *
      go_loopw [8, 9, 10] (fun x y z wr => ∃ j : Nat, j ≤ d ∧ x = .int .i64 (loadF blo br dl (m + j)) ∧ y = .int .i64 (loadF bhi br dh (m + j)) ∧ z = .int .i64 (m + j + 1) ∧ Below wo.heap.size wo wr ∧ Has wr w.heap.size 80 #[.int .i64 dl, .int .i64 dh, .int .i64 m, .int .i64 mh] ∧ Has wr wo.heap.size 183 #[.int .i64 bp, .int .i64 br, .int .i64 (allF blo bhi br dl dh m j).1, .int .i64 (allF blo bhi br dl dh m j).2]) (fun _ _ z _ => (mh + 1 - intOf z).toNat)
      case atStart => exact ⟨0, by omega, rfl, rfl, by simp, BB3.out, HS3.out, BX3.out⟩
      case round =>
        obtain ⟨j, hj, rfl, rfl, rfl, hB4, hS4, hX4⟩ := hrel
        have HB4 := Lib.hid hB4; have HS4 := Lib.hid hS4; have HX4 := Lib.hid hX4
        have cs4 := hS4.cell
        have hz4 := hX4.lt
        clear hB4 hS4 hX4 cs3
        by_cases hjd : j < d
        · have hle : (m : Int) + j + 1 ≤ mh := by have := HD.out; omega
          have hpl : 0 ≤ pres dl ∧ pres dl ≤ 19000 := by unfold pres; omega
          have hph : 0 ≤ pres dh ∧ pres dh ≤ 19000 := by unfold pres; omega
          have HPl := Lib.hid fun (W : World) => Pressure_c dl (by omega) W
          have HPh := Lib.hid fun (W : World) => Pressure_c dh (by omega) W
          have HSl := Lib.hid fun (W : World) => (show Calls Tryz.prog 126 #[.int .i64 (loadF blo br dl (m + j)), .int .i64 br, .int .i64 (pres dl)] W fun e w' => e = .returned (.int .i64 (loadF blo br dl (m + (j + 1)))) ∧ W = w' from step_c _ _ _ (HL.out _) hr hpl W)
          have HSh := Lib.hid fun (W : World) => (show Calls Tryz.prog 126 #[.int .i64 (loadF bhi br dh (m + j)), .int .i64 br, .int .i64 (pres dh)] W fun e w' => e = .returned (.int .i64 (loadF bhi br dh (m + (j + 1)))) ∧ W = w' from step_c _ _ _ (HH.out _) hr hph W)
          clear hpl hph
          go_wp2
          refine wp_free 18 (by kernel_rfl) (by kernel_rfl) (by kernel_rfl) (by decide) ?_
          intro K hK
          iterate 6 (apply Obl.val (by decide) (by kernel_rfl); (intro w' hb; have := (HX4.out.after hb).cell; have := (HS4.out.after hb).cell; go_simp; rfl))
          (apply Obl.call (f := 127) (by decide) (by kernel_rfl); (intro w' hb; go_simp; exact rfl); (intro w' hb; exact same_calls (HPl.out w')))
          (apply Obl.call (f := 126) (by decide) (by kernel_rfl); (intro w' hb; go_simp; exact rfl); (intro w' hb; exact same_calls (HSl.out w')))
          iterate 6 (apply Obl.val (by decide) (by kernel_rfl); (intro w' hb; have := (HX4.out.after hb).cell; have := (HS4.out.after hb).cell; go_simp; rfl))
          (apply Obl.call (f := 127) (by decide) (by kernel_rfl); (intro w' hb; go_simp; exact rfl); (intro w' hb; exact same_calls (HPh.out w')))
          (apply Obl.call (f := 126) (by decide) (by kernel_rfl); (intro w' hb; go_simp; exact rfl); (intro w' hb; exact same_calls (HSh.out w')))
          iterate 2 (apply Obl.val (by decide) (by kernel_rfl); (intro w' hb; have := (HX4.out.after hb).cell; have := (HS4.out.after hb).cell; go_simp; rfl))
          apply Obl.nil
          apply hK
          intro w5 hb
          simp only [Act.put, List.setIfInBounds_toArray, List.set_cons_zero, List.set_cons_succ, List.drop_succ_cons, List.drop_zero]
          clear hK K
          have HB5 := Lib.hid (nextB HB4.out (hb.mono (Nat.le_refl _))); have HS5 := Lib.hid (HS4.out.after hb); have HX5 := Lib.hid (HX4.out.after hb)
          have cx5 := HX5.out.cell
          clear hb cs4
          go_wp2_with (refine wpList_store_part rfl 43 _ _ rfl wo.heap.size 2 rfl _ rfl 183 _ HX5.out (by kernel_rfl) (by simp) (by simp [Value.oneCell']) ?_)
          go_roundw
          case rel => exact ⟨j + 1, by omega, rfl, rfl, by go_num, rowB HB5.out (Nat.le_refl _) _, HS5.out.setRow_far hne _, (HX5.out.setRow _).eq (by rw [over4]; simp [allF, nowF, Nat.add_assoc])⟩
          case measure => simp [intOf]; omega
        · have hje : j = d := by omega
          subst hje
          have hle : ¬ (m : Int) + j + 1 ≤ mh := by have := HD.out; omega
          have HO4 := Lib.hid (owns_keep HO.out HB4.out)
          go_wp2_with (first
            | (refine wpList_load_row rfl 183 _ rfl wo.heap.size rfl 183 _ (0, 0) _ HX4.out Tryz.underlying183 rfl (by kernel_rfl) ?_)
            | (at_builtin; refine wpList_app136 rfl _ _ rfl w.heap.size u5 _ rfl (HO4.out.alloc _) HLk.out wr.heap.size ⟨bp, br, (allF blo bhi br dl dh m j).1, (allF blo bhi br dl dh m j).2⟩ rfl (Has.new wr 183 _) (newB (nextB HB.out HB4.out) _).size ?_; intro v6 w6 ho6 hb6 hsp; have HO6 := Lib.hid ho6; have HB6 := Lib.hid ((newB (nextB HB.out HB4.out) (.cells #[.int .i64 bp, .int .i64 br, .int .i64 (allF blo bhi br dl dh m j).1, .int .i64 (allF blo bhi br dl dh m j).2] 183)).trans hb6); have HS6 := Lib.hid (hsp.has (HS4.out.alloc (.cells #[.int .i64 bp, .int .i64 br, .int .i64 (allF blo bhi br dl dh m j).1, .int .i64 (allF blo bhi br dl dh m j).2] 183)) (by decide)); clear ho6 hb6 hsp))
          go_roundw
          case rel => exact ⟨k + 1, by omega, by go_num, by rw [HTk.out, HAF.out]; exact HO6.out, HB6.out, HS6.out⟩
          case measure => simp [intOf]; omega
    · have hke : k = n := by omega
      subst hke
      go_wp2
      exact bodyPost_ret (results_tmp rfl _ _ _) rfl ⟨_, rfl, by have := HO.out; rw [List.take_of_length_le (by omega)] at this; exact this, HB.out⟩
end Go.Proofs
namespace Go.Proofs
open Go.RowKit Go.Shelf Gas
attribute [local go_sem ↓] Go.wp_at_zero Go.wp_at_succ

theorem refAfter_s (A : Option Addr) (n c : Nat) (xs : List Bd) (s : St) (hs : SOk s) (pn : Nat) (hn : n ≤ 10000000) (hok : ∀ b ∈ xs, BdOk pn b) (w : World) (hx : SlOf Bd.cs 4 w A n xs) :
    Calls Tryz.prog 105 #[.slice A n c, .agg #[.int .i64 s.dl, .int .i64 s.dh, .int .i64 s.ml, .int .i64 s.mh]] w (OwnsBd w (xs.map (aftB s))) := by
  obtain ⟨dl, dh, ml, mh⟩ := s
  obtain ⟨h1, h2, h3, h4, h5⟩ := hs
  simp only at h1 h2 h3 h4 h5
  obtain ⟨m, rfl⟩ := Int.eq_ofNat_of_zero_le h3
  obtain ⟨d, hd⟩ := Int.eq_ofNat_of_zero_le (show 0 ≤ mh - m by omega)
  exact refAfter_c A n c xs dl dh mh m d pn h1 h2 (by omega) (by omega) (by omega) hn hok w hx
theorem BdOk.aft {pn : Nat} {b : Bd} (h : BdOk pn b) {s : St} (hs : SOk s) : BdOk pn (aftB s b) := ⟨h.p, h.r, aftP_ok hs h.r h.v⟩
theorem BdOk.map {pn : Nat} {xs : List Bd} (h : ∀ b ∈ xs, BdOk pn b) {s : St} (hs : SOk s) : ∀ b ∈ xs.map (aftB s), BdOk pn b := by
  intro b hb
  obtain ⟨x, hx, rfl⟩ := List.mem_map.1 hb
  exact (h x hx).aft hs
/-- The specification's dive: the bodies, and the first excess. -/
def folR (ps : List Pr) : List Bd → Int → Int → Int → List St → List Bd × Int × Int
  | xs, mo, pa, _, [] => (xs, mo, pa)
  | xs, mo, pa, i, s :: l => folR ps (xs.map (aftB s)) (if 0 ≤ overL ps s.dl xs ∧ mo < 0 then i else mo) (if 0 ≤ overL ps s.dl xs ∧ mo < 0 then overL ps s.dl xs else pa) (i + 1) l
def IsFolR (w0 : World) (r : List Bd × Int × Int) (e : Ending) (w' : World) : Prop := ∃ A c, e = .returned (.tuple #[.slice A r.1.length c, .int .i64 r.2.1, .int .i64 r.2.2]) ∧ SlOf Bd.cs 4 w' A r.1.length r.1 ∧ Below w0.heap.size w0 w'

set_option maxHeartbeats 4000000 in
set_option maxRecDepth 50000 in
theorem refFollow_c (pA sA A D : Option Addr) (pn pc sn sc n c nd cd : Nat) (ps : List Pr) (xs : List Bd) (dive : List St) (hn : n ≤ 10000000) (hnd : nd ≤ 1000000) (hpn : pn ≤ 1000000) (hps : ps.all partB = true) (hok : ∀ b ∈ xs, BdOk pn b) (hds : ∀ s ∈ dive, SOk s)
    (w : World) (hp : SlOf prC 2 w pA pn ps) (hx : SlOf Bd.cs 4 w A n xs) (hd : SlOf St.cs 4 w D nd dive) :
    Calls Tryz.prog 102 #[.agg #[.slice pA pn pc, .slice sA sn sc], .slice A n c, .slice D nd cd] w (IsFolR w (folR ps xs (-1) (-1) 0 dive)) := by
  have HP := Lib.hid hp; have HDv := Lib.hid hd
  have hln := hd.1
  have hxl := hx.1
  have HDS := Lib.hid hds; have HOK := Lib.hid hok
  have HOv := Lib.hid fun (A' : Option Addr) (c' : Nat) (ys : List Bd) (d : Int) (hdd : 0 ≤ d ∧ d ≤ 100) (hy : ∀ b ∈ ys, BdOk pn b) (W : World) (hb : Below w.heap.size w W) (hsl : SlOf Bd.cs 4 W A' n ys) =>
    over_c pA sA A' pn pc sn sc n c' ps ys d hdd (by omega) hpn hps hy W (hp.keep hb) hsl
  have B0 := Lib.hid (newB (Below.refl w.heap.size w) (.cells #[.slice pA pn pc, .slice sA sn sc] 25))
  have T0 := Lib.hid (Has.new w 25 #[.slice pA pn pc, .slice sA sn sc])
  have X0 := Lib.hid (hx.keep B0.out)
  clear hp hd hx hok hds hps
  go_enter Tryz.func102, Tryz.ntmps102
  go_wp2
  go_loopw [1, 9, 10, 11] (fun v mo pa i wr => ∃ (k : Nat) (A' : Option Addr) (c' : Nat) (ys : List Bd) (m p : Int), k ≤ nd ∧ i = .int .i64 k ∧ v = .slice A' n c' ∧ mo = .int .i64 m ∧ pa = .int .i64 p ∧ SlOf Bd.cs 4 wr A' n ys ∧ (∀ b ∈ ys, BdOk pn b) ∧ Below w.heap.size w wr ∧ Has wr w.heap.size 25 #[.slice pA pn pc, .slice sA sn sc] ∧ folR ps xs (-1) (-1) 0 dive = folR ps ys m p k (dive.drop k)) (fun _ _ _ i _ => nd - (intOf i).toNat)
  case atStart => exact ⟨0, A, c, xs, -1, -1, by omega, rfl, rfl, rfl, rfl, X0.out, HOK.out, B0.out, T0.out, rfl⟩
  case round =>
    obtain ⟨k, A', c', ys, mo, pa, hk, rfl, rfl, rfl, rfl, hY, hYo, hB, hT, hE⟩ := hrel
    have HB := Lib.hid hB; have HT := Lib.hid hT; have HY := Lib.hid hY; have HYo := Lib.hid hYo; have HE := Lib.hid hE
    clear hB hT hY hYo hE
    by_cases hkn : k < nd
    · have hkl : k < dive.length := by omega
      obtain ⟨b, o, he⟩ := HDv.out.addr (by omega)
      have hx := List.getElem?_eq_getElem hkl
      have HDr := Lib.hid (List.drop_eq_getElem_cons hkl)
      have hso := HDS.out _ (List.getElem_mem hkl)
      obtain ⟨x, hxx⟩ : ∃ x, x = dive[k] := ⟨_, rfl⟩
      rw [← hxx] at hx hso HDr
      have HSO := Lib.hid hso
      have hdl := hso.dl
      subst he
      have HR := Lib.hid fun (W : World) (hb : Below w.heap.size w W) => (HDv.out.keep hb).range St.cs_len hx
      obtain ⟨dl, dh, ml, mh⟩ := x
      simp only at hdl
      replace HR := Lib.hid fun (W : World) (hb : Below w.heap.size w W) => (show W.rangeAt b (o + k * 4) [.int .i64 dl, .int .i64 dh, .int .i64 ml, .int .i64 mh] from HR.out W hb)
      have HC := Lib.hid fun (W : World) (hb : Below w.heap.size w W) => (show W.cell? ⟨b, o + k * 4, none⟩ = some (.int .i64 dl) by simpa using HR.out W hb 0 _ rfl)
      have HO1 := Lib.hid fun (W : World) (hb : Below wr.heap.size wr W) => HOv.out A' c' ys dl (by omega) HYo.out W (nextB HB.out hb) (HY.out.keep hb)
      have HEQ := Lib.hid (show folR ps ys mo pa k (⟨dl, dh, ml, mh⟩ :: dive.drop (k + 1)) = folR ps (ys.map (aftB ⟨dl, dh, ml, mh⟩)) (if 0 ≤ overL ps dl ys ∧ mo < 0 then k else mo) (if 0 ≤ overL ps dl ys ∧ mo < 0 then overL ps dl ys else pa) (k + 1) (dive.drop (k + 1)) from rfl)
      have HAf := Lib.hid fun (W : World) (hb : Below w.heap.size w W) (hsl : SlOf Bd.cs 4 W A' n ys) => refAfter_s A' n c' ys ⟨dl, dh, ml, mh⟩ HSO.out pn (by omega) HYo.out W hsl
      have hyl : (ys.map (aftB ⟨dl, dh, ml, mh⟩)).length = n := by rw [List.length_map]; exact HY.out.1
      have HMap := Lib.hid (BdOk.map HYo.out HSO.out)
      clear hx hxx hso
      generalize overL ps dl ys = ov at *
      go_wp2
      refine wp_free 10 (by kernel_rfl) (by kernel_rfl) (by kernel_rfl) (by decide) ?_
      intro K hK
      refine Obl.row (by decide) rfl 25 (.tmp 3) rfl w.heap.size (by kernel_rfl) 25 _ _ HT.out Tryz.underlying25 rfl (by kernel_rfl) ?_
      iterate 7 (apply Obl.val (by decide) (by kernel_rfl); (intro w' hb; have := HC.out w' (nextB HB.out hb); go_simp; rfl))
      (apply Obl.call (f := 104) (by decide) (by kernel_rfl); (intro w' hb; go_simp; exact rfl); (intro w' hb; exact HO1.out w' hb))
      (apply Obl.val (by decide) (by kernel_rfl); (intro w' hb; go_simp; rfl))
      apply Obl.nil
      apply hK
      intro w5 hb
      simp only [Act.put, List.setIfInBounds_toArray, List.set_cons_zero, List.set_cons_succ, List.drop_succ_cons, List.drop_zero]
      clear hK K
      have HB5 := Lib.hid (nextB HB.out hb); have HT5 := Lib.hid (HT.out.after hb); have HY5 := Lib.hid (HY.out.keep hb)
      have hR5 := Lib.hid (HR.out w5 HB5.out)
      clear hb
      by_cases hov : 0 ≤ ov ∧ mo < 0
      · rw [if_pos hov, if_pos hov] at HEQ
        obtain ⟨v1, v2⟩ := hov
        go_wp2_with (first
          | (refine wpList_load_mid rfl 80 _ rfl b (o + k * 4) rfl _ _ hR5.out Tryz.underlying80 rfl (by kernel_rfl) ?_)
          | (go_at_call 105; refine (HAf.out _ HB5.out HY5.out).mono ?_; rintro e w6 ⟨v6, rfl, ho, hb⟩; obtain ⟨A6, c6, rfl, hsl, _⟩ := owns_sl rfl ho; rw [hyl] at hsl; rw [hyl]; have HS6 := Lib.hid hsl; have HB6 := Lib.hid (nextB HB5.out hb); have HT6 := Lib.hid (HT5.out.after hb); clear ho hsl hb))
        go_roundw
        case rel => exact ⟨k + 1, A6, c6, _, k, ov, by omega, by go_num, rfl, rfl, rfl, HS6.out, HMap.out, HB6.out, HT6.out, by rw [HE.out, HDr.out, HEQ.out]; simp⟩
        case measure => simp [intOf]; omega
      · rw [if_neg hov, if_neg hov] at HEQ
        have HNo := Lib.hid hov
        by_cases h1 : 0 ≤ ov
        · have h2 : ¬ mo < 0 := fun h => hov ⟨h1, h⟩
          clear hov
          go_wp2_with (first
            | (refine wpList_load_mid rfl 80 _ rfl b (o + k * 4) rfl _ _ hR5.out Tryz.underlying80 rfl (by kernel_rfl) ?_)
            | (go_at_call 105; refine (HAf.out _ HB5.out HY5.out).mono ?_; rintro e w6 ⟨v6, rfl, ho, hb⟩; obtain ⟨A6, c6, rfl, hsl, _⟩ := owns_sl rfl ho; rw [hyl] at hsl; rw [hyl]; have HS6 := Lib.hid hsl; have HB6 := Lib.hid (nextB HB5.out hb); have HT6 := Lib.hid (HT5.out.after hb); clear ho hsl hb))
          go_roundw
          case rel => exact ⟨k + 1, A6, c6, _, mo, pa, by omega, by go_num, rfl, rfl, rfl, HS6.out, HMap.out, HB6.out, HT6.out, by rw [HE.out, HDr.out, HEQ.out]; simp⟩
          case measure => simp [intOf]; omega
        · clear hov
          go_wp2_with (first
            | (refine wpList_load_mid rfl 80 _ rfl b (o + k * 4) rfl _ _ hR5.out Tryz.underlying80 rfl (by kernel_rfl) ?_)
            | (go_at_call 105; refine (HAf.out _ HB5.out HY5.out).mono ?_; rintro e w6 ⟨v6, rfl, ho, hb⟩; obtain ⟨A6, c6, rfl, hsl, _⟩ := owns_sl rfl ho; rw [hyl] at hsl; rw [hyl]; have HS6 := Lib.hid hsl; have HB6 := Lib.hid (nextB HB5.out hb); have HT6 := Lib.hid (HT5.out.after hb); clear ho hsl hb))
          go_roundw
          case rel => exact ⟨k + 1, A6, c6, _, mo, pa, by omega, by go_num, rfl, rfl, rfl, HS6.out, HMap.out, HB6.out, HT6.out, by rw [HE.out, HDr.out, HEQ.out]; simp⟩
          case measure => simp [intOf]; omega
    · have hke : k = nd := by omega
      subst hke
      go_wp2
      have he : folR ps xs (-1) (-1) 0 dive = (ys, mo, pa) := by rw [HE.out, List.drop_eq_nil_of_le (by omega)]; rfl
      rw [he]
      have hyn := HY.out.1
      subst hyn
      exact bodyPost_ret (results_tmp3 rfl _ _ _) rfl ⟨A', c', rfl, HY.out, HB.out⟩
end Go.Proofs
namespace Go.Proofs
open Go.RowKit Go.Shelf Gas
attribute [local go_sem ↓] Go.wp_at_zero Go.wp_at_succ

theorem bodiesK_ok {t : Tm} {h : Nat → Int → Pr} (ho : FolOk t h) {k : Nat} (hk : k < t.rs.length) (hpl : t.ps.length = t.rs.length) : ∀ b ∈ bodiesK h k (t.rs.getD k (0, 0)).1 (ratesN (t.rs.getD k (0, 0)).1 (t.rs.getD k (0, 0)).2), BdOk t.ps.length b := by
  intro b hb
  simp only [bodiesK, ratesL, List.map_map, List.mem_map, List.mem_range, Function.comp_def] at hb
  obtain ⟨j, hj, rfl⟩ := hb
  have hr := ho.tok.rate hk
  unfold ratesN at hj
  exact ⟨⟨by simp only; omega, by simp only; omega⟩, ⟨by simp only; omega, by simp only; omega⟩, ho.held k _ hk (by omega) (by omega)⟩
theorem bodiesTo_ok {t : Tm} {h : Nat → Int → Pr} (ho : FolOk t h) (hpl : t.ps.length = t.rs.length) : ∀ k, k ≤ t.rs.length → ∀ b ∈ bodiesTo t.rs h k, BdOk t.ps.length b
  | 0, _, b, hb => by simp [bodiesTo] at hb
  | k + 1, hk, b, hb => by
    simp only [bodiesTo, List.mem_append] at hb
    rcases hb with hb | hb
    · exact bodiesTo_ok ho hpl k (by omega) b hb
    · exact bodiesK_ok ho (by omega) hpl b hb
theorem bodiesL_ok {t : Tm} {h : Nat → Int → Pr} (ho : FolOk t h) (hpl : t.ps.length = t.rs.length) : ∀ b ∈ bodiesL t.rs h, BdOk t.ps.length b := bodiesTo_ok ho hpl _ (Nat.le_refl _)
theorem folR_ok {pn : Nat} (ps : List Pr) : ∀ (l : List St) (xs : List Bd) (mo pa i : Int), (∀ b ∈ xs, BdOk pn b) → (∀ s ∈ l, SOk s) → (∀ b ∈ (folR ps xs mo pa i l).1, BdOk pn b) ∧ (folR ps xs mo pa i l).1.length = xs.length
  | [], xs, mo, pa, i, h, _ => ⟨h, rfl⟩
  | s :: l, xs, mo, pa, i, h, hl => by
    have := folR_ok ps l (xs.map (aftB s)) (if 0 ≤ overL ps s.dl xs ∧ mo < 0 then i else mo) (if 0 ≤ overL ps s.dl xs ∧ mo < 0 then overL ps s.dl xs else pa) (i + 1) (BdOk.map h (hl s (by simp))) (fun x hx => hl x (by simp [hx]))
    exact ⟨this.1, this.2.trans (by simp)⟩
def RSl (n : Nat) (ys : List Bd) (v : Value) (w : World) : Prop := ∃ A c, v = .slice A n c ∧ SlOf Bd.cs 4 w A n ys
theorem RSl.stable {n : Nat} {ys : List Bd} : ∀ v w w', RSl n ys v w → Below w.heap.size w w' → RSl n ys v w' := fun _ _ _ ⟨A, c, e, h⟩ hb => ⟨A, c, e, h.keep hb⟩
def RTu (n : Nat) (ys : List Bd) (m p : Int) (v : Value) (w : World) : Prop := ∃ A c, v = .tuple #[.slice A n c, .int .i64 m, .int .i64 p] ∧ SlOf Bd.cs 4 w A n ys
theorem RTu.stable {n : Nat} {ys : List Bd} {m p : Int} : ∀ v w w', RTu n ys m p v w → Below w.heap.size w w' → RTu n ys m p v w' := fun _ _ _ ⟨A, c, e, h⟩ hb => ⟨A, c, e, h.keep hb⟩

def worR (t : Tm) (dive : List St) : Int × Int :=
  if 0 ≤ (folR t.ps (bodiesL t.rs h0) (-1) (-1) 0 dive).2.1 then (folR t.ps (bodiesL t.rs h0) (-1) (-1) 0 dive).2
  else if 0 ≤ overL t.ps 0 (folR t.ps (bodiesL t.rs h0) (-1) (-1) 0 dive).1 then ((dive.length : Int), overL t.ps 0 (folR t.ps (bodiesL t.rs h0) (-1) (-1) 0 dive).1) else (-1, -1)

set_option maxHeartbeats 4000000 in
set_option maxRecDepth 50000 in
theorem refWorst_c (t : Tm) (ht : t.Ok) (A : Option Addr) (n c : Nat) (dive : List St) (hn : n ≤ 100000) (hrn : t.rs.length ≤ 100) (hds : ∀ s ∈ dive, SOk s) (w : World) (hi : t.In w) (hd : SlOf St.cs 4 w A n dive) :
    Calls Tryz.prog 71 #[t.tab, t.man, .slice A n c] w fun e w' => e = .returned (.tuple #[.int .i64 (worR t dive).1, .int .i64 (worR t dive).2]) ∧ Below w.heap.size w w' := by
  have hpl : t.ps.length = t.rs.length := by rw [hi.ps.1, hi.rs.1]; exact ht.np.symm
  have hpn : t.ps.length = t.pn := hi.ps.1
  have hdn : dive.length = n := hd.1
  have hbl := bodiesTo_len ht.rates h0 t.rs.length (Nat.le_refl _)
  have hbl2 : (bodiesL t.rs h0).length ≤ 1300 := by unfold bodiesL; omega
  have hfo := folR_ok t.ps dive (bodiesL t.rs h0) (-1) (-1) 0 (bodiesL_ok (h0_ok ht) hpl) hds
  have HBe := Lib.hid fun (W : World) (hb : Below w.heap.size w W) => refBegin_c t.rA t.rn t.rc t.rs ht.small.r ht.rates W (hi.rs.keep hb)
  have HFo := Lib.hid fun (W : World) (hb : Below w.heap.size w W) (A' : Option Addr) (c' : Nat) (hsl : SlOf Bd.cs 4 W A' (bodiesL t.rs h0).length (bodiesL t.rs h0)) =>
    refFollow_c t.pA t.sA A' A t.pn t.pc t.sn t.sc (bodiesL t.rs h0).length c' n c t.ps (bodiesL t.rs h0) dive (by omega) (by omega) ht.small.p ht.parts (by rw [← hpn]; exact bodiesL_ok (h0_ok ht) hpl) hds W (hi.ps.keep hb) hsl (hd.keep hb)
  have HOv := Lib.hid fun (W : World) (hb : Below w.heap.size w W) (A' : Option Addr) (c' : Nat) (hsl : SlOf Bd.cs 4 W A' (folR t.ps (bodiesL t.rs h0) (-1) (-1) 0 dive).1.length (folR t.ps (bodiesL t.rs h0) (-1) (-1) 0 dive).1) =>
    over_c t.pA t.sA A' t.pn t.pc t.sn t.sc _ c' t.ps (folR t.ps (bodiesL t.rs h0) (-1) (-1) 0 dive).1 0 (by omega) (by rw [hfo.2]; omega) ht.small.p ht.parts (by rw [← hpn]; exact hfo.1) W (hi.ps.keep hb) hsl
  have T0 := Lib.hid ((Has.new w 25 #[.slice t.pA t.pn t.pc, .slice t.sA t.sn t.sc]).alloc (.cells #[.slice t.rA t.rn t.rc] 28))
  have M0 := Lib.hid (Has.new' (w.alloc (.cells #[.slice t.pA t.pn t.pc, .slice t.sA t.sn t.sc] 25)) 28 #[.slice t.rA t.rn t.rc] (g := w.heap.size + 1) (by simp))
  have B0 := Lib.hid (newB (newB (Below.refl w.heap.size w) (.cells #[.slice t.pA t.pn t.pc, .slice t.sA t.sn t.sc] 25)) (.cells #[.slice t.rA t.rn t.rc] 28))
  have HD := Lib.hid (hd.keep B0.out)
  unfold worR
  generalize folR t.ps (bodiesL t.rs h0) (-1) (-1) 0 dive = r at *
  obtain ⟨ys, mo, pa⟩ := r
  generalize bodiesL t.rs h0 = bs at *
  simp only at *
  generalize overL t.ps 0 ys = ov at *
  rw [hdn]
  generalize hR : (if 0 ≤ mo then (mo, pa) else if 0 ≤ ov then ((n : Int), ov) else (-1, -1)) = R
  have HR := Lib.hid hR
  clear hR
  clear hi hd ht hpl hfo hbl hbl2 hpn hdn
  obtain ⟨pA, sA, rA, pn, pc, sn, sc, rn, rc, ps, ss, rs⟩ := t
  simp only [Tm.tab, Tm.man] at *
  by_cases hmo : 0 ≤ mo
  all_goals
    go_enter Tryz.func71, Tryz.ntmps71
    go_wp2
    generalize (w.alloc (.cells #[.slice pA pn pc, .slice sA sn sc] 25)).alloc (.cells #[.slice rA rn rc] 28) = W1 at *
    apply wp_loose 12 (.v (.agg #[.slice pA pn pc, .slice sA sn sc]) :: .v (.agg #[.slice rA rn rc]) :: .r (RSl bs.length bs) :: .v (.slice A n c) :: .r (RTu ys.length ys mo pa) :: .r (RTu ys.length ys mo pa) :: .r (RSl ys.length ys) :: .v (.int .i64 mo) :: .v (.int .i64 pa) :: .r (RSl ys.length ys) :: .v (.int .i64 mo) :: .v (.int .i64 pa) :: []) (by kernel_rfl) (by kernel_rfl) (by kernel_rfl) (by decide) rfl
    intro K hK
    refine OblS.row rfl 25 (.tmp 3) rfl w.heap.size (by kernel_rfl) 25 _ _ T0.out Tryz.underlying25 rfl (by kernel_rfl) ?_
    refine OblS.row rfl 28 (.tmp 4) rfl (w.heap.size + 1) (by kernel_rfl) 28 _ _ M0.out Tryz.underlying28 rfl (by kernel_rfl) ?_
    refine OblS.callR 103 RSl.stable (by kernel_rfl) (fun w' hb _ => ⟨#[.agg #[.slice rA rn rc]], (by kernel_rfl), (HBe.out w' (nextB B0.out hb)).mono fun e x ⟨v, h1, h2, h3⟩ => ⟨v, h1, (by obtain ⟨A', c', e1, hs, _⟩ := owns_sl rfl h2; exact ⟨A', c', e1, hs⟩), h3⟩⟩) ?_
    intro v2
    refine OblS.val (by kernel_rfl) (fun w' _ _ => (by kernel_rfl)) ?_
    refine OblS.callR 102 RTu.stable (by kernel_rfl) (fun w' hb hH => ?_) ?_
    · obtain ⟨A', c', rfl, hsl⟩ := hH _ (List.mem_cons_self ..) (by kernel_rfl)
      exact ⟨#[.agg #[.slice pA pn pc, .slice sA sn sc], .slice A' bs.length c', .slice A n c], (by kernel_rfl), (HFo.out w' (nextB B0.out hb) A' c' hsl).mono fun e x ⟨A2, c2, h1, h2, h3⟩ => ⟨_, h1, ⟨A2, c2, rfl, h2⟩, h3⟩⟩
    intro v4
    refine OblS.run RTu.stable (by kernel_rfl) (fun w' hb hH => ?_) ?_
    · obtain ⟨A', c', rfl, hsl⟩ := hH _ (List.mem_cons_self ..) (by kernel_rfl)
      exact ⟨_, w', (by kernel_rfl), ⟨A', c', rfl, hsl⟩, Below.refl _ _⟩
    intro v5
    refine OblS.run RSl.stable (by kernel_rfl) (fun w' hb hH => ?_) ?_
    · obtain ⟨A', c', rfl, hsl⟩ := hH _ (List.mem_cons_self ..) (by kernel_rfl)
      exact ⟨_, w', (by kernel_rfl), ⟨A', c', rfl, hsl⟩, Below.refl _ _⟩
    intro v6
    refine OblS.val (by kernel_rfl) (fun w' hb hH => ?_) ?_
    · obtain ⟨A', c', rfl, hsl⟩ := hH _ (List.mem_cons_of_mem _ (List.mem_cons_self ..)) (by kernel_rfl)
      kernel_rfl
    refine OblS.val (by kernel_rfl) (fun w' hb hH => ?_) ?_
    · obtain ⟨A', c', rfl, hsl⟩ := hH _ (List.mem_cons_of_mem _ (List.mem_cons_self ..)) (by kernel_rfl)
      kernel_rfl
    refine OblS.run RSl.stable (by kernel_rfl) (fun w' hb hH => ?_) ?_
    · obtain ⟨A', c', rfl, hsl⟩ := hH _ (List.mem_cons_self ..) (by kernel_rfl)
      exact ⟨_, w', (by kernel_rfl), ⟨A', c', rfl, hsl⟩, Below.refl _ _⟩
    intro v9
    refine OblS.val (by kernel_rfl) (fun w' _ _ => (by kernel_rfl)) ?_
    refine OblS.val (by kernel_rfl) (fun w' _ _ => (by kernel_rfl)) ?_
    apply OblS.nil
    apply hK
    intro w5 hb hH
    obtain ⟨A9, c9, rfl, hsl9⟩ := hH _ (List.mem_cons_self ..)
    have HS9 := Lib.hid hsl9; have HB5 := Lib.hid (nextB B0.out hb); have ct := (T0.out.after hb).cell
    clear hH hK K hsl9 hb
    simp only [Act.put, List.setIfInBounds_toArray, List.set_cons_zero, List.set_cons_succ, List.drop_succ_cons, List.drop_zero]
  · have hR := HR.out
    rw [if_pos hmo] at hR
    subst hR
    clear HR
    go_wp2
    exact bodyPost_ret (results_tmp2 rfl _ _ _) rfl ⟨rfl, HB5.out⟩
  · have hR := HR.out
    rw [if_neg (by omega)] at hR
    clear HR
    by_cases hov : 0 ≤ ov
    all_goals
      first | rw [if_pos (by omega)] at hR | rw [if_neg (by omega)] at hR
      subst hR
      go_wp2_with (go_at_call 104; refine (HOv.out _ HB5.out A9 c9 HS9.out).mono ?_; rintro e w6 ⟨rfl, hb⟩; have HB6 := Lib.hid (nextB HB5.out hb); clear hb)
      exact bodyPost_ret (results_tmp2 rfl _ _ _) rfl ⟨rfl, HB6.out⟩
end Go.Proofs
namespace Go.Proofs
open Go.RowKit Go.Shelf Gas
attribute [local go_sem ↓] Go.wp_at_zero Go.wp_at_succ

theorem refSurely_c (t : Tm) (ht : t.Ok) (A : Option Addr) (n c : Nat) (dive : List St) (hn : n ≤ 100000) (hrn : t.rs.length ≤ 100) (hds : ∀ s ∈ dive, SOk s) (w : World) (hi : t.In w) (hd : SlOf St.cs 4 w A n dive) :
    Calls Tryz.prog 27 #[t.tab, t.man, .slice A n c] w fun e w' => e = .returned (.bool (decide ((worR t dive).1 < 0))) ∧ Below w.heap.size w w' := by
  have B0 := Lib.hid (newB (newB (Below.refl w.heap.size w) (.cells #[.slice t.pA t.pn t.pc, .slice t.sA t.sn t.sc] 25)) (.cells #[.slice t.rA t.rn t.rc] 28))
  have HW := Lib.hid fun (W : World) (hb : Below w.heap.size w W) => refWorst_c t ht A n c dive hn hrn hds W (hi.keep hb) (hd.keep hb)
  generalize worR t dive = R at *
  clear hi hd ht hrn hds
  obtain ⟨pA, sA, rA, pn, pc, sn, sc, rn, rc, ps, ss, rs⟩ := t
  simp only [Tm.tab, Tm.man] at *
  go_enter Tryz.func27, Tryz.ntmps27
  go_wp2_with (go_at_call 71; refine (HW.out _ B0.out).mono ?_; rintro e w1 ⟨rfl, hb⟩; have HB1 := Lib.hid (nextB B0.out hb); clear hb)
  exact bodyPost_ret (results_tmp rfl _ _ _) rfl ⟨rfl, HB1.out⟩

theorem overL_append (ps : List Pr) (d : Int) : ∀ xs ys : List Bd, (∀ b ∈ xs, 0 ≤ b.p) → overL ps d (xs ++ ys) = if 0 ≤ overL ps d xs then overL ps d xs else overL ps d ys
  | [], ys, _ => by simp [overL]
  | b :: l, ys, h => by
    have hb := h b (by simp)
    have := overL_append ps d l ys (fun x hx => h x (by simp [hx]))
    have e : ∀ zs, overL ps d (b :: zs) = if excB ps d b then b.p else overL ps d zs := fun _ => rfl
    by_cases he : excB ps d b = true
    · have e1 : ∀ zs, overL ps d (b :: zs) = b.p := fun zs => by rw [e, if_pos he]
      rw [List.cons_append, e1, e1, if_pos hb]
    · have e1 : ∀ zs, overL ps d (b :: zs) = overL ps d zs := fun zs => by rw [e, if_neg he]
      rw [List.cons_append, e1, e1, this]
theorem overL_none (ps : List Pr) (d : Int) : ∀ xs : List Bd, (∀ b ∈ xs, excB ps d b = false) → overL ps d xs = -1
  | [], _ => rfl
  | b :: l, h => by
    simp only [overL]
    rw [if_neg (by rw [h b (by simp)]; simp)]
    exact overL_none ps d l fun x hx => h x (by simp [hx])
theorem overL_some (ps : List Pr) (d : Int) (k : Int) : ∀ xs : List Bd, (∀ b ∈ xs, b.p = k) → (∃ b ∈ xs, excB ps d b = true) → overL ps d xs = k
  | [], _, h => by obtain ⟨_, h, _⟩ := h; simp at h
  | b :: l, hp, h => by
    simp only [overL]
    by_cases he : excB ps d b = true
    · rw [if_pos he]; exact hp b (by simp)
    · rw [if_neg he]
      refine overL_some ps d k l (fun x hx => hp x (by simp [hx])) ?_
      obtain ⟨x, hx, h2⟩ := h
      rcases List.mem_cons.1 hx with rfl | hx
      · exact absurd h2 he
      · exact ⟨x, hx, h2⟩
theorem maxOf_gt (f : Int → Int) (lo L : Int) : ∀ n, maxOf f lo n > L ↔ f lo > L ∨ ∃ j : Nat, j < n ∧ f (lo + j) > L
  | 0 => by simp [maxOf]
  | n + 1 => by
    have := maxOf_gt f lo L n
    simp only [maxOf]
    constructor
    · intro h
      by_cases h1 : maxOf f lo n > L
      · rcases this.1 h1 with h | ⟨j, hj, h⟩
        · exact .inl h
        · exact .inr ⟨j, by omega, h⟩
      · exact .inr ⟨n, by omega, by omega⟩
    · rintro (h | ⟨j, hj, h⟩)
      · have := this.2 (.inl h); omega
      · rcases Nat.lt_succ_iff_lt_or_eq.1 hj with h' | rfl
        · have := this.2 (.inr ⟨j, h', h⟩); omega
        · omega
/-- The first part of some that can hold too much. -/
def firstP (f : Nat → Bool) : Nat → Int
  | 0 => -1
  | k + 1 => if 0 ≤ firstP f k then firstP f k else if f k then k else -1
theorem overL_bodiesK (ps rs : List Pr) (h : Nat → Int → Pr) (d : Int) (k : Nat) (hr : (rs.getD k (0, 0)).1 ≤ (rs.getD k (0, 0)).2) :
    overL ps d (bodiesK h k (rs.getD k (0, 0)).1 (ratesN (rs.getD k (0, 0)).1 (rs.getD k (0, 0)).2)) = if exceedsB ps rs h k d then (k : Int) else -1 := by
  have hex : ∀ x, excB ps d ⟨k, x, (h k x).1, (h k x).2⟩ = decide ((h k x).2 > (ps.getD k (0, 0)).1 + (ps.getD k (0, 0)).2 * d) := fun x => by simp [excB]
  by_cases he : exceedsB ps rs h k d = true
  · rw [if_pos he]
    unfold exceedsB greatF at he
    rw [decide_eq_true_eq, maxOf_gt] at he
    refine overL_some ps d k _ (fun b hb => ?_) ?_
    · simp only [bodiesK, List.mem_map] at hb
      obtain ⟨x, _, rfl⟩ := hb
      rfl
    · have hN : 0 < ratesN (rs.getD k (0, 0)).1 (rs.getD k (0, 0)).2 := by unfold ratesN; omega
      have : ∃ j : Nat, j < ratesN (rs.getD k (0, 0)).1 (rs.getD k (0, 0)).2 ∧ (h k ((rs.getD k (0, 0)).1 + j)).2 > (ps.getD k (0, 0)).1 + (ps.getD k (0, 0)).2 * d := by
        rcases he with he | he
        · exact ⟨0, hN, by simpa using he⟩
        · exact he
      obtain ⟨j, hj, hgt⟩ := this
      refine ⟨⟨k, (rs.getD k (0, 0)).1 + j, _, _⟩, ?_, by rw [hex]; simpa using hgt⟩
      simp only [bodiesK, ratesL, List.map_map, List.mem_map, List.mem_range, Function.comp_def]
      exact ⟨j, hj, rfl⟩
  · rw [if_neg he]
    refine overL_none ps d _ fun b hb => ?_
    simp only [bodiesK, ratesL, List.map_map, List.mem_map, List.mem_range, Function.comp_def] at hb
    obtain ⟨j, hj, rfl⟩ := hb
    rw [hex, decide_eq_false_iff_not]
    intro hgt
    apply he
    unfold exceedsB greatF
    rw [decide_eq_true_eq, maxOf_gt]
    exact .inr ⟨j, hj, hgt⟩
theorem overL_bodiesTo (ps rs : List Pr) (h : Nat → Int → Pr) (d : Int) (hr : rs.all rateB = true) : ∀ k, k ≤ rs.length → overL ps d (bodiesTo rs h k) = firstP (fun p => exceedsB ps rs h p d) k
  | 0, _ => rfl
  | k + 1, hk => by
    have hp : ∀ j, ∀ b ∈ bodiesTo rs h j, 0 ≤ b.p := by
      intro j
      induction j with
      | zero => intro b hb; simp [bodiesTo] at hb
      | succ j ih =>
        intro b hb
        simp only [bodiesTo, List.mem_append] at hb
        rcases hb with hb | hb
        · exact ih b hb
        · simp only [bodiesK, List.mem_map] at hb
          obtain ⟨x, _, rfl⟩ := hb
          simp only; omega
    simp only [bodiesTo, firstP]
    rw [overL_append ps d _ _ (hp k), overL_bodiesTo ps rs h d hr k (by omega), overL_bodiesK ps rs h d k (rate_wide hr (by omega)).2.1]
theorem map_bodiesTo (rs : List Pr) (h : Nat → Int → Pr) (s : St) : ∀ k, (bodiesTo rs h k).map (aftB s) = bodiesTo rs (stayH h s) k
  | 0 => rfl
  | k + 1 => by
    simp only [bodiesTo, List.map_append, map_bodiesTo rs h s k]
    congr 1
    simp only [bodiesK, List.map_map]
    rfl
theorem map_bodiesL (rs : List Pr) (h : Nat → Int → Pr) (s : St) : (bodiesL rs h).map (aftB s) = bodiesL rs (stayH h s) := map_bodiesTo rs h s _
theorem overL_bodies (ps rs : List Pr) (h : Nat → Int → Pr) (d : Int) (hr : rs.all rateB = true) : overL ps d (bodiesL rs h) = firstP (fun p => exceedsB ps rs h p d) rs.length := overL_bodiesTo ps rs h d hr _ (Nat.le_refl _)
theorem firstP_none {f : Nat → Bool} : ∀ k, firstP f k < 0 ↔ ∀ p, p < k → f p = false
  | 0 => by simp [firstP]
  | k + 1 => by
    have ih := firstP_none (f := f) k
    simp only [firstP]
    by_cases h : 0 ≤ firstP f k
    · rw [if_pos h]
      constructor
      · intro hh; omega
      · intro hh
        exact ih.2 fun p hp => hh p (by omega)
    · rw [if_neg h]
      have h2 := ih.1 (by omega)
      by_cases hk : f k = true
      · rw [if_pos hk]
        constructor
        · intro hh; omega
        · intro hh; rw [hh k (by omega)] at hk; cases hk
      · rw [if_neg hk]
        constructor
        · intro _ p hp
          rcases Nat.lt_succ_iff_lt_or_eq.1 hp with h' | rfl
          · exact h2 p h'
          · simpa using hk
        · intro _; omega
/-- The specification's first excess is below 0 just if the program's dive is within the limits. -/
theorem over_enter {ps rs : List Pr} {h : Nat → Int → Pr} {d : Int} (hr : rs.all rateB = true) (hpl : ps.length = rs.length) : enterB ps rs h d true = decide (overL ps d (bodiesL rs h) < 0) := by
  rw [overL_bodies ps rs h d hr]
  have e := enterB_iff ps rs h d true
  have f := firstP_none (f := fun p => exceedsB ps rs h p d) rs.length
  rw [hpl] at e
  by_cases hh : enterB ps rs h d true = true
  · rw [hh, decide_eq_true (f.2 (e.1 hh).2)]
  · have : ¬ firstP (fun p => exceedsB ps rs h p d) rs.length < 0 := fun x => hh (e.2 ⟨rfl, f.1 x⟩)
    rw [decide_eq_false this]
    simpa using hh
theorem enterB_false (ps rs : List Pr) (h : Nat → Int → Pr) (d : Int) : enterB ps rs h d false = false := by
  have := enterB_iff ps rs h d false
  cases hh : enterB ps rs h d false
  · rfl
  · exact absurd (this.1 hh).1 (by simp)
theorem enterB_and (ps rs : List Pr) (h : Nat → Int → Pr) (d : Int) (k : Bool) : enterB ps rs h d k = (k && enterB ps rs h d true) := by
  cases k
  · simp [enterB_false]
  · simp
/-- Both follow a dive alike. -/
theorem folR_fol {ps rs : List Pr} (hr : rs.all rateB = true) (hpl : ps.length = rs.length) : ∀ (l : List St) (h : Nat → Int → Pr) (k : Bool) (mo pa i : Int), 0 ≤ i → k = decide (mo < 0) →
    (folR ps (bodiesL rs h) mo pa i l).1 = bodiesL rs (folS ps rs (h, k) l).1 ∧ (folS ps rs (h, k) l).2 = decide ((folR ps (bodiesL rs h) mo pa i l).2.1 < 0)
  | [], h, k, mo, pa, i, _, hk => ⟨rfl, hk⟩
  | s :: l, h, k, mo, pa, i, h0, hk => by
    have e : folR ps (bodiesL rs h) mo pa i (s :: l) = folR ps (bodiesL rs (stayH h s)) (if 0 ≤ overL ps s.dl (bodiesL rs h) ∧ mo < 0 then i else mo) (if 0 ≤ overL ps s.dl (bodiesL rs h) ∧ mo < 0 then overL ps s.dl (bodiesL rs h) else pa) (i + 1) l := by rw [← map_bodiesL]; rfl
    rw [e, show folS ps rs (h, k) (s :: l) = folS ps rs (stayH h s, enterB ps rs h s.dl k) l from rfl]
    refine folR_fol hr hpl l (stayH h s) (enterB ps rs h s.dl k) _ _ (i + 1) (by omega) ?_
    rw [enterB_and, over_enter hr hpl, hk]
    by_cases h1 : mo < 0
    · by_cases h2 : overL ps s.dl (bodiesL rs h) < 0
      · rw [if_neg (by omega)]; simp [h1, h2]
      · rw [if_pos (by omega)]; simp [h1, h2]; omega
    · rw [if_neg (by omega)]; simp [h1]
theorem keptF_worR {t : Tm} (hr : t.rs.all rateB = true) (hpl : t.ps.length = t.rs.length) (dive : List St) : keptF t (h0, true) dive = decide ((worR t dive).1 < 0) := by
  have := folR_fol hr hpl dive h0 true (-1) (-1) 0 (by omega) rfl
  unfold keptF worR
  rw [enterB_and, this.2, this.1, over_enter hr hpl]
  by_cases h1 : 0 ≤ (folR t.ps (bodiesL t.rs h0) (-1) (-1) 0 dive).2.1
  · rw [if_pos h1, decide_eq_false (by omega)]
    first | (simp; done) | (simp; omega)
  · rw [if_neg h1, decide_eq_true (by omega), Bool.true_and]
    by_cases h2 : 0 ≤ overL t.ps 0 (bodiesL t.rs (folS t.ps t.rs (h0, true) dive).1)
    · rw [if_pos h2]; first | (simp; done) | (simp; omega)
    · rw [if_neg h2]; first | (simp; done) | (simp; omega)
end Go.Proofs
namespace Go.Proofs
open Go.RowKit Go.Shelf Gas
attribute [local go_sem ↓] Go.wp_at_zero Go.wp_at_succ

theorem refJust_c (n : Int) (w : World) : Calls Tryz.prog 61 #[.int .i64 n] w fun e w' => e = .returned (.agg #[.int .i64 n, .int .i64 n]) ∧ Below w.heap.size w w' := by
  go_enter Tryz.func61, Tryz.ntmps61
  go_wp2
  refine bodyPost_ret (v := .agg #[.int .i64 n, .int .i64 n]) (by simp [results, Tryz.results61, go_sem]) rfl ⟨rfl, ?_⟩
  repeat' (first | exact Below.refl _ _ | refine Below.setCell ?_ ?_ _ | refine newB ?_ _)
  all_goals simp
theorem lead_eq {p : Int → Bool} {k : Int} (h0 : 0 ≤ k) (h : ∀ j : Int, 0 ≤ j → j < k → p j = true) (hk : k ≤ 41) (he : k = 41 ∨ p k = false) : lead p = k := by
  have hb := lead_bd p
  rcases Int.lt_trichotomy (lead p) k with h1 | h1 | h1
  · have := h (lead p) hb.1 h1
    rw [lead_false (p := p) (by omega)] at this; cases this
  · exact h1
  · rcases he with rfl | he
    · omega
    · rw [lead_true h0 h1] at he; cases he

end Go.Proofs
