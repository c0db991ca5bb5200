/-
  Contracts of Owed and Trips hold at every season of moderate size.
-/
import Derived.Test.YtplhaohcmhepbaaGreatDoorP5
namespace Go.Proofs
open Go.RowKit Go.Shelf
attribute [local go_sem] Oper.semAt_some
attribute [local go_sem ↓] Go.wp_at_zero Go.wp_at_succ

def ltI (a b : Int) : Bool := decide (a < b)
def gtI (a b : Int) : Bool := decide (b < a)
theorem lessI_c (a b : Int) (w : World) : Calls Tryz.prog 143 #[.int .i64 a, .int .i64 b] w fun e w' => e = .returned (.bool (ltI a b)) ∧ Below w.heap.size w w' := by
  unfold ltI
  go_enter Tryz.func143, Tryz.ntmps143
  go_wp2
  exact bodyPost_ret (results_tmp rfl _ _ _) rfl ⟨rfl, Below.refl _ _⟩
theorem moreI_c (a b : Int) (w : World) : Calls Tryz.prog 144 #[.int .i64 a, .int .i64 b] w fun e w' => e = .returned (.bool (gtI a b)) ∧ Below w.heap.size w w' := by
  unfold gtI
  go_enter Tryz.func144, Tryz.ntmps144
  go_wp2
  exact bodyPost_ret (results_tmp rfl _ _ _) rfl ⟨rfl, Below.refl _ _⟩
theorem lessL_c (a b : Ls) (w : World) : Calls Tryz.prog 100 #[.slice a.A a.n a.c, .slice b.A b.n b.c] w fun e w' => e = .returned (.bool (ltN a b)) ∧ Below w.heap.size w w' := by
  have h : ((a.n : Int) < (b.n : Int)) = (a.n < b.n) := by simp
  unfold ltN
  go_enter Tryz.func100, Tryz.ntmps100
  go_wp2
  exact bodyPost_ret (results_tmp rfl _ _ _) rfl ⟨rfl, Below.refl _ _⟩

section
variable {P : Program} {ops : Array Oper} {w0 : World} {i : Nat} {o : Oper} {r : List Oper} {S : List Spec} {H : Hyps} {K : Act → Hyps → Prop} {a : Act}
theorem OblS.mid (hgd : o.guard = none) (ty : TypeId) (x : Operand) (ho : o.op = .load ty x) (b k : Nat) (hx : a.eval x = .pointer (some ⟨b, k, none⟩)) (cs : List Value) (d : TypeDesc) (hh : ∀ w, Below w0.heap.size w0 w → w.rangeAt b k cs)
    (hu : P.underlying ty = some d) (hd : d.isRow = true) (hi : (P.info? ty).map (·.size) = some cs.length)
    (h : OblS P ops w0 (i + 1) S r (a.put o.dst (.agg cs.toArray)) H K) : OblS P ops w0 i (.v (.agg cs.toArray) :: S) (o :: r) a H K := by
  refine ⟨fun w hB hH => .inl ⟨by simp [Region.wanted, hgd], ?_⟩, h⟩
  have hq : (execOp a.eval o).run P w = .ok (.value (.agg cs.toArray)) w := by
    unfold execOp
    simp only [ho, hx, Instr.loadAt, Instr.sureAddr, Sem.run_bind, Sem.run_pure, Result.andThen_ok, run_loadVar_mid w b k ty cs d (hh w hB) hu hd hi]
  unfold Oper.wp
  rw [hq]
  exact ⟨_, rfl, rfl, Below.refl _ _⟩
end

theorem Seas.desert1 {ps : List Pe} {ls : List La} (h : Seas ps ls) {d : Nat} (hd : d ≠ 0) : Seas (ps.modify d desert) ls := by
  obtain ⟨x, r, hx, h5, h6⟩ := h.house
  have hmem : ∀ y ∈ ps.modify d desert, ∃ z ∈ ps, y = z ∨ y = desert z := by
    intro y hy
    obtain ⟨j, hj, e⟩ := List.getElem_of_mem hy
    rw [List.getElem_modify] at e
    split at e
    · exact ⟨_, List.getElem_mem _, .inr e.symm⟩
    · exact ⟨_, List.getElem_mem _, .inl e.symm⟩
  have hsum : (ps.modify d desert).map Pe.p = ps.map Pe.p := by
    apply List.ext_getElem?
    intro j
    rw [List.getElem?_map, List.getElem?_map, List.getElem?_modify]
    split
    · cases ps[j]? <;> simp [desert]
    · cases ps[j]? <;> simp
  refine ⟨by simpa using h.two, by simpa using h.six, fun y hy => ?_, by rw [hsum]; exact h.sum, ?_, h.few, by simpa using h.la⟩
  · obtain ⟨z, hz, rfl | rfl⟩ := hmem y hy
    · exact h.pe _ hz
    · have := h.pe z hz
      simp only [desert]; omega
  · subst hx
    cases d with
    | zero => exact absurd rfl hd
    | succ d => exact ⟨x, r.modify d desert, by simp [List.modify_succ_cons], h5, h6⟩
theorem Seas.desert {ls : List La} : ∀ (ds : List Nat) {ps : List Pe}, Seas ps ls → (∀ d ∈ ds, d ≠ 0) → Seas (desL ps ds) ls
  | [], ps, h, _ => h
  | d :: r, ps, h, hd => by
    have h1 := h.desert1 (hd d (by simp))
    exact Seas.desert r h1 (fun e he => hd e (by simp [he]))

/-- A season with a person, and a set of persons who may desert. -/
def opC (s : Sv) (k : Nat) (may : Int) : Array Value := #[.slice s.pA s.pn s.pc, .slice s.lA s.ln s.lc, .int .i64 k, .int .i64 may]
def owedL (ps : List Pe) (ls : List La) (k : Nat) (may : Int) : List Int := (listsL (ints (membersL may))).map fun ds => shareF (desL ps (nats ds)) ls k
theorem nats_ints (l : List Nat) : nats (ints l) = l := by
  induction l with
  | nil => rfl
  | cons x r ih => simp only [nats, ints, List.map_cons, Int.toNat_natCast] at *; rw [ih]
theorem Own.cap {α : Type} {e : El α} {base n c : Nat} {A : Option Addr} {xs : List α} {w : World} (h : Own e base (.slice A n c) xs w) (hn : n = xs.length) : n ≤ c := by
  rcases h.2 with ⟨h1, h2⟩ | ⟨g', cap', cur, e1, _, _, e4, _⟩
  · cases h1; omega
  · cases e1; rw [hn]; exact e4
theorem osh_c (c0 c1 c2 c3 : Value) (w : World) :
    Calls Tryz.prog 142 #[.agg #[c0, c1, c2, c3]] w fun e w' => e = .returned (.func (.func 169) #[] #[.pointer (some ⟨w.heap.size, 0, none⟩)]) ∧ w' = w.alloc (.cells #[c0, c1, c2, c3] 125) := by
  go_enter Tryz.func142, Tryz.ntmps142
  go_wp2
  exact bodyPost_ret (results_tmp rfl _ _ _) rfl ⟨rfl, rfl⟩

theorem own_sl {α : Type} {f : α → List Value} {sz n B : Nat} {A : Option Addr} {xs : List α} {W W' : World} {row : Option Nat} (h : SlOf f sz W A n xs) (hg : W.grownBy W' row) (hr : ∀ r, row = some r → B ≤ r ∧ ∃ o : Obj, W.heap[r]? = some o ∧ o.isCells = false) : SlOf f sz W' A n xs :=
  ⟨h.1, h.2.1, fun hn => by
    obtain ⟨b, o, e, hc⟩ := h.2.2 hn
    exact ⟨b, o, e, fun j u hu => cell_kept (hc j u hu) hg (fun r e => (hr r e).2)⟩⟩
theorem OwnFrom.mono {β : Type} {B B' : Nat} {I : β → World → Prop} (h : OwnFrom B I) (hB : B ≤ B') : OwnFrom B' I := fun s W W' row hs hg hr => h s W W' row hs hg (fun r e => ⟨Nat.le_trans hB (hr r e).1, (hr r e).2⟩)

theorem Has.rangeAt {w : World} {g : Nat} {t : TypeId} {cs : Array Value} (h : Has w g t cs) (o : Nat) (l : List Value) (hl : ∀ j v, l[j]? = some v → cs[o + j]? = some v) : w.rangeAt g o l := fun j v hv => by
  rw [h.cell]; exact hl j v hv

theorem roundIn_wide {m m' l2 : Nat} {P : Program} {l : Nat} {f : FuncId} {tmps : Array Value} {assign body : Code} {w : World} {R : Ending → World → Prop} (h : RoundIn Fence.wide m P l f tmps assign body w R) : RoundIn (Fence.wide.inRound l2) m' P l f tmps assign body w R :=
  ⟨h.1, fun c cs _ => h.2 c cs (fun d hd => by cases hd)⟩

/-- The blocks of a season that lies in memory, and of a box. -/
def SvD (g : Nat) (s : Sv) : Nat → Prop := fun k => k = g ∨ (0 < s.pn ∧ ∃ a, s.pA = some a ∧ a.block = k) ∨ (0 < s.ln ∧ ∃ a, s.lA = some a ∧ a.block = k)

set_option maxRecDepth 100000 in
set_option maxHeartbeats 4000000 in
theorem shares_sq (g : Nat) (s : Sv) (k : Nat) (may : Int) (hs : Seas s.ps s.ls) (h0 : 0 ≤ may) (h1 : may ≤ 4095) (hm : ∀ d ∈ membersL may, d ≠ 0 ∧ d < s.pn) (w : World) (hi : s.In w) (hg : Has w g 125 (opC s k may)) :
    Sq 169 #[.pointer (some ⟨g, 0, none⟩)] inE (fun _ _ => True) (fun ys => ys = owedL s.ps s.ls k may) (SvD g s) w := by
  intro l J W hW hJ hY hJ0
  have HGr := Lib.hid fun (pre : List Int) (W1 W2 : World) (hj : J pre W1) (hb : Below W1.heap.size W1 W2) => hJ pre W1 W2 none hj ⟨hb.os, hb.tape, hb.output, hb.size, fun i hi _ => hb.block i hi⟩ (fun r e => by cases e)
  have HMb := Lib.hid fun (W' : World) => members_c may h0 h1 W'
  have hpn : s.pn ≤ 6 := by rw [← hi.ps.1]; exact hs.six
  have HI := Lib.hid (hi.keep hW); have hgW := hg.after hW
  have gl := hgW.cell
  have HG := Lib.hid hgW
  have glt := hgW.lt
  have HS := Lib.hid hs; have HM := Lib.hid hm; have HY := Lib.hid hY; have HJ := Lib.hid hJ; have HJ0 := Lib.hid hJ0
  have HML := Lib.hid (show (membersL may).length ≤ 12 from memTo_len may 12)
  obtain ⟨pA, lA, pn, pc, ln, lc, ps, ls⟩ := s
  simp only [opC] at *
  clear hi hg hW hJ hY hJ0 hs hm h0 h1
  have FY := Lib.hid (Has.new W 69 #[.func (.yield l) #[] #[]])
  have B0 := Lib.hid (newB (Below.refl W.heap.size W) (.cells #[.func (.yield l) #[] #[]] 69))
  refine callsIn_wide.1 (callsIn_of_wp_marks (n := 3) Tryz.func169 rfl trivial ?_ rfl)
  refine wpIn_wide.2 ?_
  simp only [Tryz.ntmps169, List.size_toArray, List.length_cons, List.length_nil, Nat.reduceAdd, Nat.reduceSub, Array.replicate_succ, Array.replicate_zero, List.push_toArray, List.append_toArray, List.nil_append, List.cons_append]
  go_wp2_with (first
    | (go_at_call 139; refine (HMb.out _).mono ?_; rintro e w1 ⟨v, rfl, ho, hb⟩; obtain ⟨A, c, rfl, hsl, _⟩ := Own.sl ho; have HO1 := Lib.hid ho; have HB1 := Lib.hid (nextB B0.out hb); have FY1 := Lib.hid (FY.out.after hb); clear ho hb hsl)
    | (go_at_call 146; refine (lists_c _ _ _ _).mono ?_; rintro e w2 ⟨rfl, rfl⟩))
  have B2 := Lib.hid (newB HB1.out (.cells #[.slice A (ints (membersL may)).length c] 30))
  have HO2 := Lib.hid (HO1.out.alloc (.cells #[.slice A (ints (membersL may)).length c] 30))
  have G2 := Lib.hid (Has.new w1 30 #[.slice A (ints (membersL may)).length c])
  have hcap := HO1.out.cap rfl
  have hz1 := HB1.out.size
  have FY2 := Lib.hid (FY1.out.alloc (.cells #[.slice A (ints (membersL may)).length c] 30))
  have hw1 : w1.heap.size < (w1.alloc (.cells #[.slice A (ints (membersL may)).length c] 30)).heap.size := by simp
  generalize w1.alloc (.cells #[.slice A (ints (membersL may)).length c] 30) = Wl at *
  have HA0 := Lib.hid (show ∀ a, A = some a → W.heap.size ≤ a.block from fun a ha => by
    subst ha
    rcases HO1.out.2 with ⟨h1, _⟩ | ⟨g', cap', cur, e1, e2, _⟩
    · cases h1
    · cases e1; simp at e2; show W.heap.size ≤ g'; omega)
  have hSq := lists_sq w1.heap.size A (ints (membersL may)).length c (ints (membersL may)) (by have := HML.out; simp [ints]; omega) hcap Wl (Own.toSl HO2.out rfl) G2.out (fun b => ∃ a, A = some a ∧ a.block = b) (fun a ha => ⟨a, ha, rfl⟩)
  have hlW := B2.out.size
  refine wp_seq (α := Ls) 171 #[.pointer (some ⟨w1.heap.size, 0, none⟩)] rfl (enters_of Tryz.func171 (by kernel_rfl) rfl) hSq (fun x X Y row h hg hr => ⟨h.1.own hg hr, h.2⟩) (Below.refl _ _) (fun _ => rfl)
    (fun pre X => J (pre.map fun x => shareF (desL ps (nats x.xs)) ls k) X ∧ (Sv.mk pA lA pn pc ln lc ps ls).In X ∧ Has X g 125 #[.slice pA pn pc, .slice lA ln lc, .int .i64 k, .int .i64 may] ∧ Has X W.heap.size 69 #[.func (.yield l) #[] #[]] ∧ W.heap.size ≤ X.heap.size) ?own ⟨HGr.out _ _ _ HJ0.out B2.out, HI.out.keep B2.out, HG.out.after B2.out, FY2.out, hlW⟩
    (fun x a' X => a' = { tmps := #[.func (.yield l) #[] #[], .pointer (some ⟨g, 0, none⟩), .pointer (some ⟨W.heap.size, 0, none⟩), .slice x.A x.n x.c, .pointer (some ⟨g, 3, none⟩), .int .i64 may, .slice A (ints (membersL may)).length c,
      .func (.func 171) #[] #[.pointer (some ⟨w1.heap.size, 0, none⟩)], .slice x.A x.n x.c, undef, undef, undef, undef, undef, undef, undef, undef, undef, undef, undef], defers := [] }) (fun a' x W W' row h _ _ => h) ?assign ?body ?done
  case own =>
    rintro pre X Y row ⟨a1, a2, a3, a4, a5⟩ hg hr
    exact ⟨OwnFrom.mono (I := J) HJ.out hlW _ X Y row a1 hg hr, ⟨own_sl a2.ps hg hr, own_sl a2.ls hg hr⟩, own_has () _ _ _ a3 hg hr, own_has () _ _ _ a4 hg hr, Nat.le_trans a5 hg.size⟩
  case assign =>
    intro l2 pre x X K hsz hI hx hK
    have HK := Lib.hid hK
    clear hK
    unfold lsC
    gi_wp2
    exact HK.out _ _ (KeepsFrom.refl _ _) (Kc.refl _ _ _) hI hx rfl
  case body =>
    rintro l2 pre x a' X hsz ⟨a1, a2, a3, a4, a5⟩ ⟨hx1, hx2⟩ rfl
    obtain ⟨ds, hds, hxs⟩ := List.sublist_map_iff.1 (listsL_mem hx2)
    have hmem : ∀ d ∈ ds, d ≠ 0 ∧ d < pn := fun d hd => HM.out d (hds.subset hd)
    have hdl : ds.length ≤ 12 := Nat.le_trans hds.length_le HML.out
    obtain ⟨xA, xn, xc, xxs⟩ := x
    simp only at hxs hx1 hx2
    have hxs' : xxs = ints ds := hxs
    subst hxs'
    have hnat : nats (ints ds) = ds := nats_ints ds
    have hxn : xn = ds.length := by have := hx1.2; simpa [ints] using this
    have HSd := Lib.hid (HS.out.desert ds fun d hd => (hmem d hd).1)
    have HD := Lib.hid fun (X' : World) (hb : Below X.heap.size X X') => deserted_c ⟨pA, lA, pn, pc, ln, lc, ps, ls⟩ (by show pn ≤ 1000; omega) xA xn xc ds (by omega) (fun d hd => (hmem d hd).2) X' (a2.keep hb) (Own.toSl (hx1.1.keep hb) hx1.2)
    have HYr := Lib.hid fun (X' : World) (hb : Below X.heap.size X X') => HY.out (pre.map fun x => shareF (desL ps (nats x.xs)) ls k) (shareF (desL ps ds) ls k) X' (HGr.out _ _ _ a1 hb) trivial (Nat.le_trans a5 hb.size)
    have HX := Lib.hid a2; have HXg := Lib.hid a3; have HXy := Lib.hid a4
    clear a1 a2 a3 a4 hx1 hx2 hds
    subst hxn
    gi_wp2
    apply wpIn_loose 9 [.v _, .v _, .v _, .v _, .r (fun v w' => ∃ pA' pc', v = .agg #[.slice pA' pn pc', .slice lA ln lc] ∧ SlOf Pe.cs 3 w' pA' pn (desL ps ds)),
      .r (fun v w' => ∃ pA' pc' b, v = .agg #[.slice pA' pn pc', .slice lA ln lc, .int .i64 (denF (desL ps ds) ls), .map (some b)] ∧ (Sv.mk pA' lA pn pc' ln lc (desL ps ds) ls).In w' ∧ MapAt w' b (clF (desL ps ds) ls)), .v _, .v _, .v _] (by kernel_rfl) (by kernel_rfl) (by kernel_rfl) (by kernel_rfl) (by decide) rfl
    intro K hK
    apply OblS.val rfl
    · intro w' hb _; have := (HXy.out.after hb).cell; go_simp; rfl
    apply OblS.val rfl
    · intro w' hb _; go_simp; rfl
    refine OblS.mid rfl 25 _ rfl g 0 rfl [.slice pA pn pc, .slice lA ln lc] _ (fun w' hb => (HXg.out.after hb).rangeAt 0 _ (fun j v hv => ?_)) Tryz.underlying25 rfl (by kernel_rfl) ?_
    · rcases j with _ | _ | j
      · simpa using hv
      · simpa using hv
      · simp at hv
    apply OblS.val rfl
    · intro w' hb _; go_simp; rfl
    apply OblS.callR 170
    · rintro v w1 w2 ⟨pA', pc', h1, h2⟩ hb; exact ⟨pA', pc', h1, h2.keep hb⟩
    · rfl
    · intro w' hb _
      apply Exists.intro; apply And.intro; (go_simp; rfl); refine (HD.out w' hb).mono ?_
      rintro e w2 ⟨pA', pc', rfl, hs, hb2⟩
      exact ⟨_, rfl, ⟨pA', pc', rfl, hs⟩, hb2⟩
    intro v4
    apply OblS.callR 80
    · rintro v w1 w2 ⟨pA', pc', b, h1, h2, h3⟩ hb; exact ⟨pA', pc', b, h1, h2.keep hb, h3.keep hb⟩
    · rfl
    · intro w' hb hH
      obtain ⟨pA', pc', rfl, hs⟩ := hH _ (List.mem_cons_self ..) (by kernel_rfl)
      apply Exists.intro; apply And.intro; (go_simp; rfl); refine (settle_c ⟨pA', lA, pn, pc', ln, lc, desL ps ds, ls⟩ HSd.out w' ⟨hs, HX.out.ls.keep hb⟩).mono ?_
      rintro e w2 ⟨b, rfl, hm, hb2⟩
      exact ⟨_, rfl, ⟨pA', pc', b, rfl, ⟨hs.keep hb2, (HX.out.ls.keep hb).keep hb2⟩, hm⟩, hb2⟩
    intro v5
    apply OblS.val rfl
    · intro w' hb _; go_simp; rfl
    apply OblS.val rfl
    · intro w' hb _; have := (HXg.out.after hb).cell; go_simp; rfl
    apply OblS.call (v := .int .i64 (shareF (desL ps ds) ls k)) 136 rfl
    · intro w' hb hH
      obtain ⟨pA', pc', b, rfl, hi, hm⟩ := hH _ (List.mem_cons_self ..) (by kernel_rfl)
      apply Exists.intro; apply And.intro; (go_simp; rfl); exact share_c ⟨pA', lA, pn, pc', ln, lc, desL ps ds, ls⟩ HSd.out b k w' hi hm
    apply OblS.nil
    apply hK
    intro w2 hb hH
    clear hH hK K
    simp only [Act.put, List.setIfInBounds_toArray, List.set_cons_zero, List.set_cons_succ, List.drop_succ_cons, List.drop_zero]
    obtain ⟨fn, tmps, assign, body, hy, hR⟩ := HYr.out w2 hb
    unfold inE at hy
    gi_wp2
    refine RoundIn.mono (roundIn_wide hR) ?_
    rintro e W3 ⟨rfl, hJ3, hk3⟩
    have HJ3 := Lib.hid hJ3; have HK3 := Lib.hid hk3; have HB3 := Lib.hid hb
    clear hJ3 hk3 hy hR hb
    gi_wp2
    have hD3 : ∀ b, SvD g ⟨pA, lA, pn, pc, ln, lc, ps, ls⟩ b → SvD g ⟨pA, lA, pn, pc, ln, lc, ps, ls⟩ b ∨ W.heap.size ≤ b := fun b h => .inl h
    refine ⟨(keeps_below HB3.out).trans (HK3.out.keeps hlW), (Kc.below HB3.out).trans (HK3.out.wide (fun b ⟨a, ha, hb⟩ => .inr (by rw [← hb]; exact HA0.out a ha)) (by omega)), ?_, ?_, ?_, ?_, ?_⟩
    · rw [List.map_append]
      simp only [List.map_cons, List.map_nil, hnat]
      exact HJ3.out
    · exact ⟨HK3.out.sl (fun h a ha => .inl (.inr (.inl ⟨h, a, ha, rfl⟩))) (HX.out.ps.keep HB3.out), HK3.out.sl (fun h a ha => .inl (.inr (.inr ⟨h, a, ha, rfl⟩))) (HX.out.ls.keep HB3.out)⟩
    · exact HK3.out.has (HXg.out.after HB3.out) (.inl (.inl rfl))
    · exact HK3.out.has (HXy.out.after HB3.out) (.inr (Nat.le_refl _))
    · exact Nat.le_trans a5 (Nat.le_trans HB3.out.size HK3.out.size)
  case done =>
    rintro Q0 ys X hQ hS ⟨a1, a2, a3, a4, a5⟩ hK
    have HKd := Lib.hid hK; have HJx := Lib.hid a1; have HSx := Lib.hid hS
    clear a1 a2 a3 a4 hK hS hSq
    go_wp2
    refine leaves_marks [Q0] X (by simp) (fun D' hD' => by simp at hD'; subst hD'; exact HKd.out) (fun w' y1 y2 y3 y4 y5 => ?_)
    refine ⟨_, results_none rfl _ _ _, ⟨_, rfl⟩, _, ?_, HJ.out _ X w' (some Q0) HJx.out ⟨y2, y3, y4, by rw [y1]; exact Nat.le_refl _, fun i _ hne => y5 i (by simp; intro e; exact hne (by rw [e]))⟩ (fun r e => by cases e; exact ⟨by omega, _, HKd.out, rfl⟩)⟩
    show List.map (fun x => shareF (desL ps (nats x.xs)) ls k) ys = owedL ps ls k may
    have hS := HSx.out
    unfold owedL
    rw [← hS, List.map_map]; rfl
end Go.Proofs
namespace Go.Proofs
open Go.RowKit Go.Shelf
attribute [local go_sem ↓] Go.wp_at_zero Go.wp_at_succ

theorem SvD.lt {g : Nat} {s : Sv} {w : World} (hi : s.In w) (hg : g < w.heap.size) : ∀ k, SvD g s k → k < w.heap.size := by
  rintro k (rfl | ⟨hn, a, ha, rfl⟩ | ⟨hn, a, ha, rfl⟩)
  · exact hg
  · obtain ⟨b, o, e⟩ := hi.ps.addr hn
    rw [e] at ha; cases ha
    have h := hi.ps
    rw [e] at h
    exact h.lt Pe.cs_len (by omega) hn
  · obtain ⟨b, o, e⟩ := hi.ls.addr hn
    rw [e] at ha; cases ha
    have h := hi.ls
    rw [e] at h
    exact h.lt La.cs_len (by omega) hn

set_option maxRecDepth 20000 in
set_option maxHeartbeats 1000000 in
theorem least_c (s : Sv) (k : Nat) (may : Int) (hs : Seas s.ps s.ls) (h0 : 0 ≤ may) (h1 : may ≤ 4095) (hm : ∀ d ∈ membersL may, d ≠ 0 ∧ d < s.pn) (w : World) (hi : s.In w) :
    Calls Tryz.prog 96 #[.agg (opC s k may)] w fun e w' => e = .returned (.int .i64 ((bestL ltI (owedL s.ps s.ls k may)).getD 0)) ∧ Below w.heap.size w w' := by
  have e169 : ∀ args w, (callFunc 169 args).run Tryz.prog w = .ok (.enter 169 args) w := enters_of Tryz.func169 (by kernel_rfl) rfl
  have e143 : ∀ args w, (callFunc 143 args).run Tryz.prog w = .ok (.enter 143 args) w := enters_of Tryz.func143 (by kernel_rfl) rfl
  have HB := Lib.hid fun (W : World) (hb : Below w.heap.size w W) (g : Nat) (hg : g = W.heap.size) => (show Calls Tryz.prog 141 #[.func (.func 169) #[] #[.pointer (some ⟨g, 0, none⟩)], .func (.func 143) #[] #[]] (W.alloc (.cells (opC s k may) 125)) fun e w' => e = .returned (bestIV (bestL ltI (owedL s.ps s.ls k may))) ∧ Below (W.alloc (.cells (opC s k may) 125)).heap.size (W.alloc (.cells (opC s k may) 125)) w' from by
    subst hg
    exact bestI_c 169 #[.pointer (some ⟨W.heap.size, 0, none⟩)] e169 143 ltI e143 lessI_c (owedL s.ps s.ls k may) (W.alloc (.cells (opC s k may) 125)) (SvD W.heap.size s) (SvD.lt ((hi.keep hb).keep (newB (Below.refl _ _) _)) (by simp)) (shares_sq W.heap.size s k may hs h0 h1 hm _ ((hi.keep hb).keep (newB (Below.refl _ _) _)) (Has.new W 125 _)))
  generalize owedL s.ps s.ls k may = L at *
  obtain ⟨pA, lA, pn, pc, ln, lc, ps, ls⟩ := s
  simp only [opC] at *
  clear hi hs hm
  have F0 := Lib.hid (Has.new w 125 #[.slice pA pn pc, .slice lA ln lc, .int .i64 k, .int .i64 may])
  have B0 := Lib.hid (newB (Below.refl w.heap.size w) (.cells #[.slice pA pn pc, .slice lA ln lc, .int .i64 k, .int .i64 may] 125))
  unfold bestIV at HB
  go_enter Tryz.func96, Tryz.ntmps96
  go_wp2_with (first
    | (refine wpList_load_row rfl 125 _ rfl w.heap.size rfl 125 _ (0, 0) _ F0.out Tryz.underlying125 rfl (by kernel_rfl) ?_)
    | (go_at_call 142; refine (osh_c _ _ _ _ _).mono ?_; rintro e w1 ⟨rfl, rfl⟩)
    | (go_at_call 141; refine (HB.out _ B0.out (w.heap.size + 1) (by simp)).mono ?_; rintro e w2 ⟨rfl, hb2⟩; have HB2 := Lib.hid (nextB (newB B0.out _) hb2); clear hb2))
  exact bodyPost_ret (results_tmp rfl _ _ _) rfl ⟨rfl, HB2.out⟩
set_option maxRecDepth 20000 in
set_option maxHeartbeats 1000000 in
theorem greatest_c (s : Sv) (k : Nat) (may : Int) (hs : Seas s.ps s.ls) (h0 : 0 ≤ may) (h1 : may ≤ 4095) (hm : ∀ d ∈ membersL may, d ≠ 0 ∧ d < s.pn) (w : World) (hi : s.In w) :
    Calls Tryz.prog 97 #[.agg (opC s k may)] w fun e w' => e = .returned (.int .i64 ((bestL gtI (owedL s.ps s.ls k may)).getD 0)) ∧ Below w.heap.size w w' := by
  have e169 : ∀ args w, (callFunc 169 args).run Tryz.prog w = .ok (.enter 169 args) w := enters_of Tryz.func169 (by kernel_rfl) rfl
  have e144 : ∀ args w, (callFunc 144 args).run Tryz.prog w = .ok (.enter 144 args) w := enters_of Tryz.func144 (by kernel_rfl) rfl
  have HB := Lib.hid fun (W : World) (hb : Below w.heap.size w W) (g : Nat) (hg : g = W.heap.size) => (show Calls Tryz.prog 141 #[.func (.func 169) #[] #[.pointer (some ⟨g, 0, none⟩)], .func (.func 144) #[] #[]] (W.alloc (.cells (opC s k may) 125)) fun e w' => e = .returned (bestIV (bestL gtI (owedL s.ps s.ls k may))) ∧ Below (W.alloc (.cells (opC s k may) 125)).heap.size (W.alloc (.cells (opC s k may) 125)) w' from by
    subst hg
    exact bestI_c 169 #[.pointer (some ⟨W.heap.size, 0, none⟩)] e169 144 gtI e144 moreI_c (owedL s.ps s.ls k may) (W.alloc (.cells (opC s k may) 125)) (SvD W.heap.size s) (SvD.lt ((hi.keep hb).keep (newB (Below.refl _ _) _)) (by simp)) (shares_sq W.heap.size s k may hs h0 h1 hm _ ((hi.keep hb).keep (newB (Below.refl _ _) _)) (Has.new W 125 _)))
  generalize owedL s.ps s.ls k may = L at *
  obtain ⟨pA, lA, pn, pc, ln, lc, ps, ls⟩ := s
  simp only [opC] at *
  clear hi hs hm
  have F0 := Lib.hid (Has.new w 125 #[.slice pA pn pc, .slice lA ln lc, .int .i64 k, .int .i64 may])
  have B0 := Lib.hid (newB (Below.refl w.heap.size w) (.cells #[.slice pA pn pc, .slice lA ln lc, .int .i64 k, .int .i64 may] 125))
  unfold bestIV at HB
  go_enter Tryz.func97, Tryz.ntmps97
  go_wp2_with (first
    | (refine wpList_load_row rfl 125 _ rfl w.heap.size rfl 125 _ (0, 0) _ F0.out Tryz.underlying125 rfl (by kernel_rfl) ?_)
    | (go_at_call 142; refine (osh_c _ _ _ _ _).mono ?_; rintro e w1 ⟨rfl, rfl⟩)
    | (go_at_call 141; refine (HB.out _ B0.out (w.heap.size + 1) (by simp)).mono ?_; rintro e w2 ⟨rfl, hb2⟩; have HB2 := Lib.hid (nextB (newB B0.out _) hb2); clear hb2))
  exact bodyPost_ret (results_tmp rfl _ _ _) rfl ⟨rfl, HB2.out⟩

theorem members_lt {s : Int} {n : Nat} (h0 : 0 ≤ s) (h1 : s ≤ 2 ^ n - 1) : ∀ d ∈ membersL s, d < n := by
  intro d hd
  simp only [membersL, memTo, List.mem_filter] at hd
  refine Nat.lt_of_not_le fun hge => ?_
  have hp : (0 : Int) < 2 ^ n := Int.pow_pos (by omega)
  have hle : (2 : Int) ^ n ≤ 2 ^ d := by
    have h2 : (2 : Nat) ^ n ≤ 2 ^ d := Nat.pow_le_pow_right (by omega) hge
    have e1 : ((2 ^ n : Nat) : Int) = (2 : Int) ^ n := by push_cast; rfl
    have e2 : ((2 ^ d : Nat) : Int) = (2 : Int) ^ d := by push_cast; rfl
    omega
  have : s / 2 ^ d = 0 := Int.ediv_eq_zero_of_lt h0 (by omega)
  have := small_has (k := d) h0 (by omega)
  rw [this] at hd; exact absurd hd.2 (by decide)

/-- Can all persons of a set be asked about? -/
def openB (ps : List Pe) (k : Nat) (may : Int) : Bool := inB may 0 (2 ^ ps.length - 1) && !hasB may 0 && !hasB may k && (membersL may).all fun d => (ps.getD d ⟨0, 0, 0⟩).f == 1

set_option maxRecDepth 20000 in
set_option maxHeartbeats 2000000 in
theorem isOpen_c (s : Sv) (k : Nat) (may : Int) (hk : k ≤ 60) (hpn : s.pn ≤ 10) (w : World) (hi : s.In w) :
    Calls Tryz.prog 95 #[.agg (opC s k may)] w fun e w' => e = .returned (.bool (openB s.ps k may)) ∧ Below w.heap.size w w' := by
  have HPl := Lib.hid hi.ps.1
  have HSt := Lib.hid fun (w' : World) => isSet_c may s.pn (by omega) w'
  have HH0 := Lib.hid fun (w' : World) => (show Calls Tryz.prog 128 #[.int .i64 may, .int .i64 0] w' fun e w'' => e = .returned (.bool (hasB may 0)) ∧ w' = w'' from has_c may 0 (by omega) w')
  have HHk := Lib.hid fun (w' : World) => has_c may k hk w'
  have HE := Lib.hid (show openB s.ps k may = (inB may 0 (2 ^ s.pn - 1) && !hasB may 0 && !hasB may k && (membersL may).all fun d => (s.ps.getD d ⟨0, 0, 0⟩).f == 1) by unfold openB; rw [hi.ps.1])
  cases c1 : inB may 0 (2 ^ s.pn - 1)
  · rw [c1] at HSt HE
    rw [HE.out]
    clear c1
    obtain ⟨pA, lA, pn, pc, ln, lc, ps, ls⟩ := s
    simp only [opC, Bool.false_and] at *
    have F0 := Lib.hid (Has.new w 125 #[.slice pA pn pc, .slice lA ln lc, .int .i64 k, .int .i64 may])
    have B0 := Lib.hid (newB (Below.refl w.heap.size w) (.cells #[.slice pA pn pc, .slice lA ln lc, .int .i64 k, .int .i64 may] 125))
    go_enter Tryz.func95, Tryz.ntmps95
    go_wp2_with (go_at_call 127; refine (HSt.out _).mono ?_; rintro e w1 ⟨rfl, rfl⟩)
    exact bodyPost_ret (results_tmp rfl _ _ _) rfl ⟨rfl, B0.out⟩
  · rw [c1] at HSt HE
    have hmb : 0 ≤ may ∧ may ≤ 4095 := by
      simp only [inB, decide_eq_true_eq] at c1
      have : (2 : Nat) ^ s.pn ≤ 1024 := Nat.pow_le_pow_right (by omega) hpn
      have e : ((2 ^ s.pn : Nat) : Int) = (2 : Int) ^ s.pn := by push_cast; rfl
      omega
    have hbits := members_lt (s := may) (n := s.pn) (by omega) (by simp only [inB, decide_eq_true_eq] at c1; omega)
    have HMb := Lib.hid fun (W' : World) => members_c may hmb.1 hmb.2 W'
    have HML := Lib.hid (show (membersL may).length ≤ 12 from memTo_len may 12)
    have HI := Lib.hid hi; have HBt := Lib.hid hbits
    clear c1 hmb hbits hi
    cases c2 : hasB may 0
    · rw [c2] at HH0 HE
      clear c2
      cases c3 : hasB may k
      · rw [c3] at HHk HE
        clear c3
        simp only [Bool.true_and, Bool.not_false] at HE
        generalize openB s.ps k may = ans at *
        obtain ⟨pA, lA, pn, pc, ln, lc, ps, ls⟩ := s
        simp only [opC] at *
        have F0 := Lib.hid (Has.new w 125 #[.slice pA pn pc, .slice lA ln lc, .int .i64 k, .int .i64 may])
        have B0 := Lib.hid (newB (Below.refl w.heap.size w) (.cells #[.slice pA pn pc, .slice lA ln lc, .int .i64 k, .int .i64 may] 125))
        have HN := Lib.hid (show (ints (membersL may)).length = (membersL may).length by simp [ints])
        go_enter Tryz.func95, Tryz.ntmps95
        go_wp2_with (first
          | (go_at_call 127; refine (HSt.out _).mono ?_; rintro e w1 ⟨rfl, rfl⟩)
          | (go_at_call 128; with_reducible refine (HH0.out _).mono ?_; rintro e w1 ⟨rfl, rfl⟩)
          | (go_at_call 128; with_reducible refine (HHk.out _).mono ?_; rintro e w1 ⟨rfl, rfl⟩)
          | (go_at_call 139; refine (HMb.out _).mono ?_; rintro e w1 ⟨v, rfl, ho, hb⟩; obtain ⟨A, c, rfl, hsl, _⟩ := Own.sl ho; rw [HN.out] at hsl ⊢; have HS1 := Lib.hid hsl; have HB1 := Lib.hid (nextB B0.out hb); have F1 := Lib.hid (F0.out.after hb); clear ho hb hsl))
        go_loopw [29] (fun v wr => ∃ j : Nat, j ≤ (membersL may).length ∧ v = .int .i64 j ∧ Below w.heap.size w wr ∧ Has wr w.heap.size 125 #[.slice pA pn pc, .slice lA ln lc, .int .i64 k, .int .i64 may] ∧ SlOf inC 1 wr A (membersL may).length (ints (membersL may)) ∧ ∀ d ∈ (membersL may).take j, ((ps.getD d ⟨0, 0, 0⟩).f == 1) = true) (fun v _ => (membersL may).length - (intOf v).toNat)
        case atStart => exact ⟨0, by omega, rfl, HB1.out, F1.out, HS1.out, fun d h => by simp at h⟩
        case round =>
          obtain ⟨j, hj, rfl, hB, hF, hS, hT⟩ := hrel
          have HBr := Lib.hid hB; have HFr := Lib.hid hF; have HSr := Lib.hid hS; have HTr := Lib.hid hT
          have cf := hF.cell; have zf := hF.lt
          clear hB hF hS hT
          have hm12 := HML.out
          by_cases hjl : j < (membersL may).length
          · obtain ⟨b, o, he⟩ := HSr.out.addr (by omega)
            have hx := List.getElem?_eq_getElem hjl
            have hdm := HBt.out _ (List.getElem_mem hjl)
            have HTk := Lib.hid (List.take_append_getElem hjl)
            have HMem := Lib.hid (List.getElem_mem hjl)
            obtain ⟨d, hdd⟩ : ∃ d, d = (membersL may)[j] := ⟨_, rfl⟩
            rw [← hdd] at hx hdm HTk HMem
            have hc : wr.cell? ⟨b, o + j, none⟩ = some (.int .i64 d) := by
              have h1 := HSr.out
              rw [he] at h1
              have := h1.range inC_len (show (ints (membersL may))[j]? = some (d : Int) by simp [ints, hx]) 0 _ rfl
              simpa using this
            have hdl : d < ps.length := by rw [HPl.out]; exact hdm
            have hpx := List.getElem?_eq_getElem hdl
            have HGd := Lib.hid (show ps.getD d ⟨0, 0, 0⟩ = ps[d] by simp [List.getD_eq_getElem?_getD, hpx])
            obtain ⟨x, hxx⟩ : ∃ x, x = ps[d] := ⟨_, rfl⟩
            rw [← hxx] at hpx HGd
            obtain ⟨x0, x1, x2⟩ := x
            obtain ⟨b2, o2, he2⟩ := HI.out.ps.addr (show 0 < pn by omega)
            simp only at he2
            have hR := Lib.hid (show wr.rangeAt b2 (o2 + d * 3) [.int .i64 x0, .int .i64 x1, .int .i64 x2] from by
              have h1 := HI.out.ps.keep HBr.out
              simp only at h1
              rw [he2] at h1
              exact h1.range Pe.cs_len hpx)
            have HSy := Lib.hid fun (w' : World) => stays_c x0 x1 x2 w'
            clear hpx hxx hx hdd
            subst he; subst he2
            cases hst : (x2 == 1)
            all_goals
              rw [hst] at HSy
              have HSt2 := Lib.hid hst
              clear hst
              go_wp2_with (first
                | (refine wpList_load_mid rfl 49 _ rfl b2 (o2 + d * 3) (by simp [go_sem]) _ _ hR.out Tryz.underlying49 rfl (by kernel_rfl) ?_)
                | (go_at_call 140; refine (HSy.out _).mono ?_; rintro e w5 ⟨rfl, hb5⟩; have HB5 := Lib.hid (nextB HBr.out hb5); have HF5 := Lib.hid (HFr.out.after hb5); have HS5 := Lib.hid (HSr.out.keep hb5); clear hb5))
            · have he : ans = false := by
                rw [HE.out]
                refine List.all_eq_false.2 ⟨d, HMem.out, ?_⟩
                rw [HGd.out]; simp only [HSt2.out]; decide
              rw [he]
              exact bodyPost_ret (results_tmp rfl _ _ _) rfl ⟨rfl, HB5.out⟩
            · go_roundw
              case rel => exact ⟨j + 1, by omega, by go_num, HB5.out, HF5.out, HS5.out, fun y hy => by
                rw [← HTk.out] at hy
                rcases List.mem_append.1 hy with h | h
                · exact HTr.out y h
                · simp at h; subst h; rw [HGd.out]; exact HSt2.out⟩
              case measure => simp [intOf]; omega
          · have hje : j = (membersL may).length := by omega
            subst hje
            have he : ans = true := by
              rw [HE.out]
              refine List.all_eq_true.2 fun d hd => HTr.out d (by rw [List.take_of_length_le (Nat.le_refl _)]; exact hd)
            go_wp2
            rw [he]
            exact bodyPost_ret (results_tmp rfl _ _ _) rfl ⟨rfl, HBr.out⟩
      · rw [c3] at HHk HE
        clear c3
        rw [HE.out]
        obtain ⟨pA, lA, pn, pc, ln, lc, ps, ls⟩ := s
        simp only [opC, Bool.true_and, Bool.not_true, Bool.not_false, Bool.false_and] at *
        have F0 := Lib.hid (Has.new w 125 #[.slice pA pn pc, .slice lA ln lc, .int .i64 k, .int .i64 may])
        have B0 := Lib.hid (newB (Below.refl w.heap.size w) (.cells #[.slice pA pn pc, .slice lA ln lc, .int .i64 k, .int .i64 may] 125))
        go_enter Tryz.func95, Tryz.ntmps95
        go_wp2_with (first
          | (go_at_call 127; refine (HSt.out _).mono ?_; rintro e w1 ⟨rfl, rfl⟩)
          | (go_at_call 128; with_reducible refine (HH0.out _).mono ?_; rintro e w1 ⟨rfl, rfl⟩)
          | (go_at_call 128; with_reducible refine (HHk.out _).mono ?_; rintro e w1 ⟨rfl, rfl⟩))
        exact bodyPost_ret (results_tmp rfl _ _ _) rfl ⟨rfl, B0.out⟩
    · rw [c2] at HH0 HE
      rw [HE.out]
      clear c2
      obtain ⟨pA, lA, pn, pc, ln, lc, ps, ls⟩ := s
      simp only [opC, Bool.true_and, Bool.not_true, Bool.false_and] at *
      have F0 := Lib.hid (Has.new w 125 #[.slice pA pn pc, .slice lA ln lc, .int .i64 k, .int .i64 may])
      have B0 := Lib.hid (newB (Below.refl w.heap.size w) (.cells #[.slice pA pn pc, .slice lA ln lc, .int .i64 k, .int .i64 may] 125))
      go_enter Tryz.func95, Tryz.ntmps95
      go_wp2_with (first
        | (go_at_call 127; refine (HSt.out _).mono ?_; rintro e w1 ⟨rfl, rfl⟩)
        | (go_at_call 128; with_reducible refine (HH0.out _).mono ?_; rintro e w1 ⟨rfl, rfl⟩))
      exact bodyPost_ret (results_tmp rfl _ _ _) rfl ⟨rfl, B0.out⟩
end Go.Proofs
namespace Go.Proofs
open Go.RowKit Go.Shelf
attribute [local go_sem ↓] Go.wp_at_zero Go.wp_at_succ

/-- Does a number belong to a person who shares? -/
def sharerB (ps : List Pe) (ls : List La) (p : Int) : Bool := seasonB ps ls && inB p 0 ((ps.length : Int) - 1) && shB (ps.getD p.toNat ⟨0, 0, 0⟩).f

set_option maxRecDepth 20000 in
set_option maxHeartbeats 2000000 in
theorem isSharer_c (s : Sv) (p : Int) (hpn : s.pn ≤ 1000000) (hln : s.ln ≤ 1000000) (w : World) (hi : s.In w) :
    Calls Tryz.prog 94 #[s.val, .int .i64 p] w fun e w' => e = .returned (.bool (sharerB s.ps s.ls p)) ∧ Below w.heap.size w w' := by
  have HC := Lib.hid fun (w' : World) (hb : Below w.heap.size w w') => check_c s hpn hln w' (hi.keep hb)
  have HPl := Lib.hid hi.ps.1
  have HI := Lib.hid hi
  cases c1 : seasonB s.ps s.ls
  · have HE := Lib.hid (show sharerB s.ps s.ls p = false by simp [sharerB, c1])
    rw [c1] at HC
    rw [HE.out]
    clear hi c1
    obtain ⟨pA, lA, pn, pc, ln, lc, ps, ls⟩ := s
    simp only [Sv.val] at *
    have F0 := Lib.hid (Has.new w 25 #[.slice pA pn pc, .slice lA ln lc])
    have B0 := Lib.hid (newB (Below.refl w.heap.size w) (.cells #[.slice pA pn pc, .slice lA ln lc] 25))
    go_enter Tryz.func94, Tryz.ntmps94
    go_wp2_with (first
      | (refine wpList_load_row rfl 25 _ rfl w.heap.size rfl 25 _ (0, 0) _ F0.out Tryz.underlying25 rfl (by kernel_rfl) ?_)
      | (go_at_call 25; refine (HC.out _ B0.out).mono ?_; rintro e w1 ⟨rfl, hb1⟩; rw [show errI false = 2 from rfl]; have HB1 := Lib.hid (nextB B0.out hb1); clear hb1))
    exact bodyPost_ret (results_tmp rfl _ _ _) rfl ⟨rfl, HB1.out⟩
  · have hse := (seas_iff _ _).1 c1
    have h2 : 2 ≤ s.pn := by rw [← hi.ps.1]; exact hse.two
    have HE := Lib.hid (show sharerB s.ps s.ls p = (inB p 0 ((s.pn : Int) - 1) && shB (s.ps.getD p.toNat ⟨0, 0, 0⟩).f) by simp [sharerB, c1, hi.ps.1])
    have HWi := Lib.hid fun (w' : World) => within_c p 0 ((s.pn : Int) - 1) w'
    rw [c1] at HC
    cases c2 : inB p 0 ((s.pn : Int) - 1)
    · rw [c2] at HE HWi
      rw [HE.out]
      clear hi c1 c2 hse
      obtain ⟨pA, lA, pn, pc, ln, lc, ps, ls⟩ := s
      simp only [Sv.val, Bool.false_and] at *
      have F0 := Lib.hid (Has.new w 25 #[.slice pA pn pc, .slice lA ln lc])
      have B0 := Lib.hid (newB (Below.refl w.heap.size w) (.cells #[.slice pA pn pc, .slice lA ln lc] 25))
      go_enter Tryz.func94, Tryz.ntmps94
      go_wp2_with (first
        | (refine wpList_load_row rfl 25 _ rfl w.heap.size rfl 25 _ (0, 0) _ F0.out Tryz.underlying25 rfl (by kernel_rfl) ?_)
        | (go_at_call 25; refine (HC.out _ B0.out).mono ?_; rintro e w1 ⟨rfl, hb1⟩; rw [show errI true = 0 from rfl]; have HB1 := Lib.hid (nextB B0.out hb1); have cf := (F0.out.after hb1).cell; clear hb1)
        | (go_at_call 102; refine (HWi.out _).mono ?_; rintro e w2 ⟨rfl, rfl⟩))
      exact bodyPost_ret (results_tmp rfl _ _ _) rfl ⟨rfl, HB1.out⟩
    · rw [c2] at HE HWi
      simp only [inB, decide_eq_true_eq] at c2
      obtain ⟨k, rfl⟩ : ∃ k : Nat, p = k := ⟨p.toNat, by omega⟩
      have hkn : k < s.pn := by omega
      have hkl : k < s.ps.length := by rw [hi.ps.1]; exact hkn
      have hpx := List.getElem?_eq_getElem hkl
      have HGd := Lib.hid (show s.ps.getD k ⟨0, 0, 0⟩ = s.ps[k] by simp [List.getD_eq_getElem?_getD, hpx])
      obtain ⟨x, hxx⟩ : ∃ x, x = s.ps[k] := ⟨_, rfl⟩
      rw [← hxx] at hpx HGd
      obtain ⟨x0, x1, x2⟩ := x
      rw [Int.toNat_natCast, HGd.out] at HE
      rw [HE.out]
      have HSy := Lib.hid fun (w' : World) => shares_c x0 x1 x2 w'
      obtain ⟨b2, o2, he2⟩ := hi.ps.addr (show 0 < s.pn by omega)
      have HR := Lib.hid fun (w' : World) (hb : Below w.heap.size w w') => (show w'.rangeAt b2 (o2 + k * 3) [.int .i64 x0, .int .i64 x1, .int .i64 x2] from by
        have h1 := hi.ps.keep hb
        rw [he2] at h1
        exact h1.range Pe.cs_len hpx)
      clear hi c1 hse hpx hxx c2
      obtain ⟨pA, lA, pn, pc, ln, lc, ps, ls⟩ := s
      simp only [Sv.val, Bool.true_and] at *
      subst he2
      have F0 := Lib.hid (Has.new w 25 #[.slice (some ⟨b2, o2, none⟩) pn pc, .slice lA ln lc])
      have B0 := Lib.hid (newB (Below.refl w.heap.size w) (.cells #[.slice (some ⟨b2, o2, none⟩) pn pc, .slice lA ln lc] 25))
      go_enter Tryz.func94, Tryz.ntmps94
      go_wp2_with (first
        | (refine wpList_load_row rfl 25 _ rfl w.heap.size rfl 25 _ (0, 0) _ F0.out Tryz.underlying25 rfl (by kernel_rfl) ?_)
        | (go_at_call 25; refine (HC.out _ B0.out).mono ?_; rintro e w1 ⟨rfl, hb1⟩; rw [show errI true = 0 from rfl]; have HB1 := Lib.hid (nextB B0.out hb1); have cf := (F0.out.after hb1).cell; have hR := Lib.hid (HR.out _ HB1.out); have q0 : w1.cell? ⟨b2, o2 + k * 3, none⟩ = some (.int .i64 x0) := hR.out 0 _ rfl; have q1 := hR.out 1 _ rfl; have q2 := hR.out 2 _ rfl; clear hb1)
        | (go_at_call 102; refine (HWi.out _).mono ?_; rintro e w2 ⟨rfl, rfl⟩)
        | (go_at_call 138; refine (HSy.out _).mono ?_; rintro e w5 ⟨rfl, hb5⟩; have HB5 := Lib.hid (nextB HB1.out hb5); clear hb5))
      exact bodyPost_ret (results_tmp rfl _ _ _) rfl ⟨rfl, HB5.out⟩

/-- What Owed answers: between which bounds, and the error. -/
def owedF (ps : List Pe) (ls : List La) (p may : Int) : Int × Int × Int :=
  if sharerB ps ls p && openB ps p.toNat may then ((bestL ltI (owedL ps ls p.toNat may)).getD 0, (bestL gtI (owedL ps ls p.toNat may)).getD 0, 0) else (0, 0, 2)
def spE (r : Int × Int × Int) : Value := .tuple #[.agg #[.int .i64 r.1, .int .i64 r.2.1], .int .i64 r.2.2]

set_option maxRecDepth 50000 in
set_option maxHeartbeats 4000000 in
theorem Owed_c (s : Sv) (p may : Int) (hpn : s.pn ≤ 1000000) (hln : s.ln ≤ 1000000) (w : World) (hi : s.In w) :
    Calls Tryz.prog 38 #[s.val, .int .i64 p, .int .i64 may] w fun e w' => e = .returned (spE (owedF s.ps s.ls p may)) ∧ Below w.heap.size w w' := by
  have HSh := Lib.hid fun (w' : World) (hb : Below w.heap.size w w') => isSharer_c s p hpn hln w' (hi.keep hb)
  cases c1 : sharerB s.ps s.ls p
  · have HE := Lib.hid (show owedF s.ps s.ls p may = (0, 0, 2) by simp [owedF, c1])
    rw [c1] at HSh
    rw [HE.out]
    clear hi c1
    obtain ⟨pA, lA, pn, pc, ln, lc, ps, ls⟩ := s
    simp only [Sv.val] at *
    have Z0 := Lib.hid ((Has.new' (w.alloc (.cells #[.slice pA pn pc, .slice lA ln lc] 25)) 56 #[.int .i64 0, .int .i64 0] (g := w.heap.size + 1) (by simp)).alloc (.cells #[.slice pA pn pc, .slice lA ln lc, .int .i64 p, .int .i64 may] 125))
    have B0 := Lib.hid (newB (newB (newB (Below.refl w.heap.size w) (.cells #[.slice pA pn pc, .slice lA ln lc] 25)) (.cells #[.int .i64 0, .int .i64 0] 56)) (.cells #[.slice pA pn pc, .slice lA ln lc, .int .i64 p, .int .i64 may] 125))
    go_enter Tryz.func38, Tryz.ntmps38
    go_wp2_with (first
      | (go_at_call 94; refine (HSh.out _ B0.out).mono ?_; rintro e w1 ⟨rfl, hb1⟩; have HB1 := Lib.hid (nextB B0.out hb1); have Z1 := Lib.hid (Z0.out.after hb1); clear hb1)
      | (refine wpList_store_all rfl 56 _ _ rfl (w.heap.size + 1) rfl _ rfl 56 _ Z1.out (by kernel_rfl) rfl (by simp [Value.oneCell']) ?_))
    exact bodyPost_ret (results_row_tmp Tryz.results38 _ _ (w.heap.size + 1) 56 _ (0, 0) _ rfl (Z1.out.setRow _) Tryz.underlying56 rfl (by kernel_rfl)) rfl ⟨rfl, rowB HB1.out (by omega) _⟩
  · have hp : inB p 0 ((s.pn : Int) - 1) = true := by
      simp only [sharerB, Bool.and_eq_true, hi.ps.1] at c1; exact c1.1.2
    have hse : Seas s.ps s.ls := (seas_iff _ _).1 (by simp only [sharerB, Bool.and_eq_true] at c1; exact c1.1.1)
    have h6 : s.pn ≤ 6 := by rw [← hi.ps.1]; exact hse.six
    simp only [inB, decide_eq_true_eq] at hp
    obtain ⟨k, rfl⟩ : ∃ k : Nat, p = k := ⟨p.toNat, by omega⟩
    have HOp := Lib.hid fun (w' : World) (hb : Below w.heap.size w w') => isOpen_c s k may (by omega) (by omega) w' (hi.keep hb)
    have HE := Lib.hid (show owedF s.ps s.ls k may = if openB s.ps k may then ((bestL ltI (owedL s.ps s.ls k may)).getD 0, (bestL gtI (owedL s.ps s.ls k may)).getD 0, 0) else (0, 0, 2) by simp [owedF, c1])
    rw [c1] at HSh
    cases c2 : openB s.ps k may
    · rw [c2] at HE HOp
      rw [HE.out]
      clear hi c1 c2 hse hp
      obtain ⟨pA, lA, pn, pc, ln, lc, ps, ls⟩ := s
      simp only [Sv.val, opC, Bool.false_eq_true, if_false] at *
      have Z0 := Lib.hid ((Has.new' (w.alloc (.cells #[.slice pA pn pc, .slice lA ln lc] 25)) 56 #[.int .i64 0, .int .i64 0] (g := w.heap.size + 1) (by simp)).alloc (.cells #[.slice pA pn pc, .slice lA ln lc, .int .i64 k, .int .i64 may] 125))
      have F0 := Lib.hid ((Has.new' ((w.alloc (.cells #[.slice pA pn pc, .slice lA ln lc] 25)).alloc (.cells #[.int .i64 0, .int .i64 0] 56)) 125 #[.slice pA pn pc, .slice lA ln lc, .int .i64 k, .int .i64 may] (g := w.heap.size + 1 + 1) (by simp)))
      have B0 := Lib.hid (newB (newB (newB (Below.refl w.heap.size w) (.cells #[.slice pA pn pc, .slice lA ln lc] 25)) (.cells #[.int .i64 0, .int .i64 0] 56)) (.cells #[.slice pA pn pc, .slice lA ln lc, .int .i64 k, .int .i64 may] 125))
      go_enter Tryz.func38, Tryz.ntmps38
      go_wp2_with (first
        | (go_at_call 94; refine (HSh.out _ B0.out).mono ?_; rintro e w1 ⟨rfl, hb1⟩; have HB1 := Lib.hid (nextB B0.out hb1); have Z1 := Lib.hid (Z0.out.after hb1); have F1 := Lib.hid (F0.out.after hb1); have cf := F1.out.cell; clear hb1)
        | (go_at_call 95; refine (HOp.out _ HB1.out).mono ?_; rintro e w2 ⟨rfl, hb2⟩; have HB2 := Lib.hid (nextB HB1.out hb2); have Z2 := Lib.hid (Z1.out.after hb2); clear hb2)
        | (refine wpList_store_all rfl 56 _ _ rfl (w.heap.size + 1) rfl _ rfl 56 _ Z2.out (by kernel_rfl) rfl (by simp [Value.oneCell']) ?_))
      exact bodyPost_ret (results_row_tmp Tryz.results38 _ _ (w.heap.size + 1) 56 _ (0, 0) _ rfl (Z2.out.setRow _) Tryz.underlying56 rfl (by kernel_rfl)) rfl ⟨rfl, rowB HB2.out (by omega) _⟩
    · rw [c2] at HE HOp
      have hmay : 0 ≤ may ∧ may ≤ 2 ^ s.pn - 1 := by
        simp only [openB, Bool.and_eq_true, inB, decide_eq_true_eq, hi.ps.1] at c2; exact c2.1.1.1
      have hm4 : may ≤ 4095 := by
        have : (2 : Nat) ^ s.pn ≤ 64 := Nat.pow_le_pow_right (by omega) h6
        have e : ((2 ^ s.pn : Nat) : Int) = (2 : Int) ^ s.pn := by push_cast; rfl
        omega
      have hmem : ∀ d ∈ membersL may, d ≠ 0 ∧ d < s.pn := fun d hd => ⟨fun h => by
        subst h
        simp only [openB, Bool.and_eq_true, Bool.not_eq_true'] at c2
        simp only [membersL, memTo, List.mem_filter] at hd
        rw [c2.1.1.2] at hd; exact absurd hd.2 (by decide), members_lt hmay.1 hmay.2 d hd⟩
      have HLe := Lib.hid fun (w' : World) (hb : Below w.heap.size w w') => least_c s k may hse hmay.1 hm4 hmem w' (hi.keep hb)
      have HGr := Lib.hid fun (w' : World) (hb : Below w.heap.size w w') => greatest_c s k may hse hmay.1 hm4 hmem w' (hi.keep hb)
      generalize (bestL ltI (owedL s.ps s.ls k may)).getD 0 = lo at *
      generalize (bestL gtI (owedL s.ps s.ls k may)).getD 0 = hi' at *
      rw [HE.out]
      have hmf : ∀ (fn : Fn) (first cap : Array Value) (w : World), (Instr.makeFunc fn first cap).run Tryz.prog w = .ok (.func fn first cap) w := fun _ _ _ _ => rfl
      clear hi c1 c2 hse hp hmem hmay
      obtain ⟨pA, lA, pn, pc, ln, lc, ps, ls⟩ := s
      simp only [Sv.val, opC, if_true] at *
      have Z0 := Lib.hid ((Has.new' (w.alloc (.cells #[.slice pA pn pc, .slice lA ln lc] 25)) 56 #[.int .i64 0, .int .i64 0] (g := w.heap.size + 1) (by simp)).alloc (.cells #[.slice pA pn pc, .slice lA ln lc, .int .i64 k, .int .i64 may] 125))
      have F0 := Lib.hid ((Has.new' ((w.alloc (.cells #[.slice pA pn pc, .slice lA ln lc] 25)).alloc (.cells #[.int .i64 0, .int .i64 0] 56)) 125 #[.slice pA pn pc, .slice lA ln lc, .int .i64 k, .int .i64 may] (g := w.heap.size + 1 + 1) (by simp)))
      have B0 := Lib.hid (newB (newB (newB (Below.refl w.heap.size w) (.cells #[.slice pA pn pc, .slice lA ln lc] 25)) (.cells #[.int .i64 0, .int .i64 0] 56)) (.cells #[.slice pA pn pc, .slice lA ln lc, .int .i64 k, .int .i64 may] 125))
      go_enter Tryz.func38, Tryz.ntmps38
      go_wp2_with (first
        | (go_at_call 94; refine (HSh.out _ B0.out).mono ?_; rintro e w1 ⟨rfl, hb1⟩; have HB1 := Lib.hid (nextB B0.out hb1); have Z1 := Lib.hid (Z0.out.after hb1); have F1 := Lib.hid (F0.out.after hb1); have cf := F1.out.cell; clear hb1)
        | (go_at_call 95; refine (HOp.out _ HB1.out).mono ?_; rintro e w2 ⟨rfl, hb2⟩; have HB2 := Lib.hid (nextB HB1.out hb2); have Z2 := Lib.hid (Z1.out.after hb2); have F2 := Lib.hid (F1.out.after hb2); clear hb2)
        | (refine wpList_load_row rfl 125 _ rfl (w.heap.size + 1 + 1) rfl 125 _ (0, 0) _ F2.out Tryz.underlying125 rfl (by kernel_rfl) ?_))
      have A0 := Lib.hid (Has.new w2 126 #[.func (.func 96) #[.agg #[.slice pA pn pc, .slice lA ln lc, .int .i64 k, .int .i64 may]] #[], .func (.func 97) #[.agg #[.slice pA pn pc, .slice lA ln lc, .int .i64 k, .int .i64 may]] #[]])
      have B3 := Lib.hid (newB HB2.out (.cells #[.func (.func 96) #[.agg #[.slice pA pn pc, .slice lA ln lc, .int .i64 k, .int .i64 may]] #[], .func (.func 97) #[.agg #[.slice pA pn pc, .slice lA ln lc, .int .i64 k, .int .i64 may]] #[]] 126))
      have Z3 := Lib.hid (Z2.out.alloc (.cells #[.func (.func 96) #[.agg #[.slice pA pn pc, .slice lA ln lc, .int .i64 k, .int .i64 may]] #[], .func (.func 97) #[.agg #[.slice pA pn pc, .slice lA ln lc, .int .i64 k, .int .i64 may]] #[]] 126))
      clear cf
      generalize w2.alloc (.cells #[.func (.func 96) #[.agg #[.slice pA pn pc, .slice lA ln lc, .int .i64 k, .int .i64 may]] #[], .func (.func 97) #[.agg #[.slice pA pn pc, .slice lA ln lc, .int .i64 k, .int .i64 may]] #[]] 126) = W3 at *
      refine wp_free 7 (by kernel_rfl) (by kernel_rfl) (by kernel_rfl) (by decide) ?_
      intro K hK
      iterate 2 (apply Obl.val (by decide) (by kernel_rfl); (intro w' hb; have := (A0.out.after hb).cell; go_simp; rfl))
      apply Obl.call (f := 96) (by decide) (by kernel_rfl)
      · intro w' hb; go_simp; exact rfl
      · intro w' hb; exact HLe.out w' (nextB B3.out hb)
      iterate 2 (apply Obl.val (by decide) (by kernel_rfl); (intro w' hb; have := (A0.out.after hb).cell; go_simp; rfl))
      apply Obl.call (f := 97) (by decide) (by kernel_rfl)
      · intro w' hb; go_simp; exact rfl
      · intro w' hb; exact HGr.out w' (nextB B3.out hb)
      apply Obl.val (by decide) (by kernel_rfl)
      · intro w' hb; go_simp; rfl
      apply Obl.nil
      apply hK
      intro w4 hb
      simp only [Act.put, List.setIfInBounds_toArray, List.set_cons_zero, List.set_cons_succ, List.drop_succ_cons, List.drop_zero]
      clear hK K
      have HB4 := Lib.hid (nextB B3.out hb); have Z4 := Lib.hid (Z3.out.after hb)
      clear hb
      go_wp2_with (refine wpList_store_all rfl 56 _ _ rfl (w.heap.size + 1) rfl _ rfl 56 _ Z4.out (by kernel_rfl) rfl (by simp [Value.oneCell']) ?_)
      exact bodyPost_ret (results_row_tmp Tryz.results38 _ _ (w.heap.size + 1) 56 _ (0, 0) _ rfl (Z4.out.setRow _) Tryz.underlying56 rfl (by kernel_rfl)) rfl ⟨rfl, rowB HB4.out (by omega) _⟩
end Go.Proofs
namespace Go.Proofs
open Go.RowKit Go.Shelf
attribute [local go_sem] Oper.semAt_some
attribute [local go_sem ↓] Go.wp_at_zero Go.wp_at_succ

theorem clr_key : ∀ n : Fin 64, ∀ k : Fin 6, IntKind.i64.wrap (((BitVec.ofInt 64 ((n : Nat) : Int) &&& ~~~BitVec.ofInt 64 (2 ^ (k : Nat))).toNat : Nat) : Int) = clrN ((n : Nat) : Int) k := by decide +kernel
theorem set_key : ∀ n : Fin 64, ∀ k : Fin 6, IntKind.i64.wrap (((BitVec.ofInt 64 ((n : Nat) : Int) ||| BitVec.ofInt 64 (2 ^ (k : Nat))).toNat : Nat) : Int) = setN ((n : Nat) : Int) k := by decide +kernel
theorem rng_key : ∀ n : Fin 64, ∀ k : Fin 6, ∀ m : Fin 7, (n : Nat) < 2 ^ (m : Nat) → (k : Nat) < m → 0 ≤ setN ((n : Nat) : Int) k ∧ setN ((n : Nat) : Int) k < 2 ^ (m : Nat) ∧ 0 ≤ clrN ((n : Nat) : Int) k ∧ clrN ((n : Nat) : Int) k < 2 ^ (m : Nat) ∧ ((k : Nat) ≠ 0 → hasB (setN ((n : Nat) : Int) k) 0 = hasB ((n : Nat) : Int) 0 ∧ hasB (clrN ((n : Nat) : Int) k) 0 = hasB ((n : Nat) : Int) 0) := by decide +kernel
theorem clr_bits {x : Int} {k : Nat} (h0 : 0 ≤ x) (h1 : x < 64) (hk : k < 6) : Op.intBits .andNot .i64 x (2 ^ k) = (pure (.int .i64 (clrN x k)) : Sem Value) := by
  obtain ⟨n, rfl⟩ : ∃ n : Nat, x = n := ⟨x.toNat, by omega⟩
  have := clr_key ⟨n, by omega⟩ ⟨k, hk⟩
  show (pure (Value.int .i64 (IntKind.i64.wrap (((BitVec.ofInt 64 (n : Int) &&& ~~~BitVec.ofInt 64 (2 ^ k)).toNat : Nat) : Int))) : Sem Value) = _
  rw [this]
theorem set_bits {x : Int} {k : Nat} (h0 : 0 ≤ x) (h1 : x < 64) (hk : k < 6) : Op.intBits .or .i64 x (2 ^ k) = (pure (.int .i64 (setN x k)) : Sem Value) := by
  obtain ⟨n, rfl⟩ : ∃ n : Nat, x = n := ⟨x.toNat, by omega⟩
  have := set_key ⟨n, by omega⟩ ⟨k, hk⟩
  show (pure (Value.int .i64 (IntKind.i64.wrap (((BitVec.ofInt 64 (n : Int) ||| BitVec.ofInt 64 (2 ^ k)).toNat : Nat) : Int))) : Sem Value) = _
  rw [this]
theorem bits_rng {x : Int} {k m : Nat} (h0 : 0 ≤ x) (h1 : x ≤ 2 ^ m - 1) (hm : m ≤ 6) (hk : k < m) : (0 ≤ setN x k ∧ setN x k ≤ 2 ^ m - 1 ∧ 0 ≤ clrN x k ∧ clrN x k ≤ 2 ^ m - 1) ∧ (k ≠ 0 → hasB (setN x k) 0 = hasB x 0 ∧ hasB (clrN x k) 0 = hasB x 0) := by
  obtain ⟨n, rfl⟩ : ∃ n : Nat, x = n := ⟨x.toNat, by omega⟩
  have e : ((2 ^ m : Nat) : Int) = (2 : Int) ^ m := by push_cast; rfl
  have h64 : (2 : Nat) ^ m ≤ 64 := Nat.pow_le_pow_right (by omega) hm
  have := rng_key ⟨n, by omega⟩ ⟨k, by omega⟩ ⟨m, by omega⟩ (by show n < 2 ^ m; omega) hk
  refine ⟨?_, this.2.2.2.2⟩
  have h3 := this.1; have h4 := this.2.1; have h5 := this.2.2.1; have h6 := this.2.2.2.1
  simp only at h3 h4 h5 h6
  omega

/-- A season in which somebody takes part in just some landings is as defined. -/
theorem Seas.took {ps : List Pe} {ls : List La} (h : Seas ps ls) {k : Nat} (hk : k < ps.length) (hk0 : k ≠ 0) (ts : List Nat) : Seas ps (takenL ls k ts) := by
  have hok : ∀ l : La, (0 ≤ l.g ∧ l.g ≤ 100000 ∧ 0 ≤ l.c ∧ l.c ≤ 100000 ∧ 0 ≤ l.w ∧ l.w ≤ 2 ^ ps.length - 1 ∧ hasB l.w 0 = true) → ((0 ≤ (tookS k l).g ∧ (tookS k l).g ≤ 100000 ∧ 0 ≤ (tookS k l).c ∧ (tookS k l).c ≤ 100000 ∧ 0 ≤ (tookS k l).w ∧ (tookS k l).w ≤ 2 ^ ps.length - 1 ∧ hasB (tookS k l).w 0 = true) ∧
      (0 ≤ (tookC k l).g ∧ (tookC k l).g ≤ 100000 ∧ 0 ≤ (tookC k l).c ∧ (tookC k l).c ≤ 100000 ∧ 0 ≤ (tookC k l).w ∧ (tookC k l).w ≤ 2 ^ ps.length - 1 ∧ hasB (tookC k l).w 0 = true)) := by
    rintro l ⟨a1, a2, a3, a4, a5, a6, a7⟩
    obtain ⟨⟨b1, b2, b3, b4⟩, b5⟩ := bits_rng (k := k) a5 a6 h.six hk
    obtain ⟨b5, b6⟩ := b5 hk0
    simp only [tookS, tookC]
    exact ⟨⟨a1, a2, a3, a4, b1, b2, b5.trans a7⟩, ⟨a1, a2, a3, a4, b3, b4, b6.trans a7⟩⟩
  have key : ∀ (ts : List Nat) (xs : List La), (∀ l ∈ xs, 0 ≤ l.g ∧ l.g ≤ 100000 ∧ 0 ≤ l.c ∧ l.c ≤ 100000 ∧ 0 ≤ l.w ∧ l.w ≤ 2 ^ ps.length - 1 ∧ hasB l.w 0 = true) → ∀ l ∈ ts.foldl (fun ls l => ls.modify l (tookS k)) xs, 0 ≤ l.g ∧ l.g ≤ 100000 ∧ 0 ≤ l.c ∧ l.c ≤ 100000 ∧ 0 ≤ l.w ∧ l.w ≤ 2 ^ ps.length - 1 ∧ hasB l.w 0 = true := by
    intro ts
    induction ts with
    | nil => intro xs hx; exact hx
    | cons t r ih =>
      intro xs hx
      refine ih _ fun l hl => ?_
      obtain ⟨j, hj, e⟩ := List.getElem_of_mem hl
      rw [List.getElem_modify] at e
      split at e
      · rw [← e]; exact (hok _ (hx _ (List.getElem_mem _))).1
      · rw [← e]; exact hx _ (List.getElem_mem _)
  refine ⟨h.two, h.six, h.pe, h.sum, h.house, by rw [takenL_len]; exact h.few, ?_⟩
  refine key ts _ fun l hl => ?_
  obtain ⟨x, hx, rfl⟩ := List.mem_map.1 hl
  exact (hok x (h.la x hx)).2
end Go.Proofs
namespace Go.Proofs
open Go.RowKit Go.Shelf
attribute [local go_sem ↓] Go.wp_at_zero Go.wp_at_succ

theorem La.setW {l : La} {v : Int} : eL.f { l with w := v } = (eL.f l).set 2 (.int .i64 v) := rfl
theorem list_set_modify {α : Type} (xs : List α) (j : Nat) (f : α → α) (x : α) (hx : xs[j]? = some x) : xs.modify j f = xs.set j (f x) := by
  have hj := (List.getElem?_eq_some_iff.1 hx).1
  apply List.ext_getElem?
  intro i
  rw [List.getElem?_modify, List.getElem?_set]
  by_cases hji : j = i
  · subst hji; rw [if_pos rfl, if_pos hj, hx]; simp
  · rw [if_neg hji]; simp [hji]

/-- A list of which the first ones were changed. -/
def midF {α : Type} (f : α → α) (xs : List α) (j : Nat) : List α := (xs.take j).map f ++ xs.drop j
theorem midF_len {α : Type} (f : α → α) (xs : List α) (j : Nat) : (midF f xs j).length = xs.length := by simp [midF]; omega
theorem midF_get {α : Type} (f : α → α) (xs : List α) (j : Nat) (h : j < xs.length) : (midF f xs j)[j]? = some xs[j] := by
  unfold midF
  rw [List.getElem?_append_right (by simp; omega)]
  simp [Nat.min_eq_left (Nat.le_of_lt h), List.getElem?_eq_getElem h]
theorem midF_set {α : Type} (f : α → α) (xs : List α) (j : Nat) (h : j < xs.length) : (midF f xs j).set j (f xs[j]) = midF f xs (j + 1) := by
  unfold midF
  have e : j - ((xs.take j).map f).length = 0 := by simp; omega
  rw [List.set_append_right _ _ (by simp; omega), e, ← List.take_append_getElem h, List.map_append, List.append_assoc, List.drop_eq_getElem_cons h]
  rfl

set_option maxRecDepth 50000 in
set_option maxHeartbeats 4000000 in
theorem taken_c (s : Sv) (hs : Seas s.ps s.ls) (k : Nat) (hk : k < s.pn) (hk0 : k ≠ 0) (A : Option Addr) (n c : Nat) (ts : List Nat) (hn : n ≤ 1000) (hd : ∀ t ∈ ts, t < s.ln) (w : World) (hi : s.In w) (hA : SlOf inC 1 w A n (ints ts)) :
    Calls Tryz.prog 148 #[s.val, .int .i64 k, .slice A n c] w fun e w' => ∃ lA' lc', e = .returned (.agg #[.slice s.pA s.pn s.pc, .slice lA' s.ln lc']) ∧ SlOf La.cs 3 w' lA' s.ln (takenL s.ls k ts) ∧ Below w.heap.size w w' := by
  have h6 : s.pn ≤ 6 := by rw [← hi.ps.1]; exact hs.six
  have hl6 : s.ln ≤ 6 := by rw [← hi.ls.1]; exact hs.few
  have HC := Lib.hid fun (w' : World) (hb : Below w.heap.size w w') => cloneL_c s.lA s.ln s.lc s.ls (by omega) w' (hi.ls.keep hb)
  have HLL := Lib.hid hi.ls.1
  have hpw : (2 : Int) ^ s.ps.length ≤ 64 := by
    have : (2 : Nat) ^ s.ps.length ≤ 64 := Nat.pow_le_pow_right (by omega) hs.six
    have e : ((2 ^ s.ps.length : Nat) : Int) = (2 : Int) ^ s.ps.length := by push_cast; rfl
    omega
  have HBd := Lib.hid fun (y : La) (hy : y ∈ s.ls) => (show 0 ≤ y.w ∧ y.w < 64 from by have := hs.la y hy; omega)
  have HTk := Lib.hid fun (xs : List Nat) (y : La) (hy : y ∈ takenL s.ls k xs) => (show 0 ≤ y.w ∧ y.w < 64 from by have := (hs.took (by rw [hi.ps.1]; exact hk) hk0 xs).la y hy; omega)
  have hk6 : k < 6 := by omega
  have hsh : (2 : Int) ^ k ≤ 32 ∧ 1 ≤ (2 : Int) ^ k := by
    have h1 : (2 : Nat) ^ k ≤ 2 ^ 5 := Nat.pow_le_pow_right (by omega) (by omega)
    have h1 : (2 : Nat) ^ k ≤ 32 := h1
    have h2 : 0 < (2 : Nat) ^ k := Nat.pow_pos (by omega)
    have e : ((2 ^ k : Nat) : Int) = (2 : Int) ^ k := by push_cast; rfl
    omega
  have HW2 := Lib.hid (show wrap64 (2 ^ k) = 2 ^ k from IntWalk.wrap64_in _ (by omega))
  obtain ⟨pA, lA, pn, pc, ln, lc, ps, ls⟩ := s
  simp only [Sv.val] at *
  have HA := Lib.hid hA; have HN := Lib.hid (show ts.length = n by have := hA.1; simpa [ints] using this); have HD := Lib.hid hd
  clear hi hA hd hs hpw
  have F2 := Lib.hid ((Has.new w 25 #[.slice pA pn pc, .slice lA ln lc]).alloc (.cells #[.slice none 0 0, .slice none 0 0] 25))
  have F4 := Lib.hid (Has.new' (w.alloc (.cells #[.slice pA pn pc, .slice lA ln lc] 25)) 25 #[.slice none 0 0, .slice none 0 0] (g := w.heap.size + 1) (by simp))
  have B0 := Lib.hid (newB (newB (Below.refl w.heap.size w) (.cells #[.slice pA pn pc, .slice lA ln lc] 25)) (.cells #[.slice none 0 0, .slice none 0 0] 25))
  go_enter Tryz.func148, Tryz.ntmps148
  go_wp2_with (go_at_call 174; refine (HC.out _ B0.out).mono ?_; rintro e w1 ⟨v, rfl, ho, hb⟩; obtain ⟨lA', lc', rfl, _, _⟩ := Own.sl ho; rw [HLL.out] at ho ⊢; have HO := Lib.hid ho; have HB := Lib.hid (nextB B0.out hb); have h2 := F2.out.after hb; have c2 := h2.cell; have f2 := h2.frozen; have z2 := h2.lt; have H2 := Lib.hid h2; have H4 := Lib.hid (F4.out.after hb); clear ho hb h2)
  have HSt := Lib.hid (HO.out.setFar (i := 1) H2.out (by decide) (.slice lA' ln lc'))
  have HB2 := Lib.hid (setB HB.out (p := ⟨w.heap.size, 1, none⟩) (by simp) (.slice lA' ln lc'))
  have H22 := Lib.hid (show Has (w1.setCell ⟨w.heap.size, 1, none⟩ (.slice lA' ln lc')) w.heap.size 25 #[.slice pA pn pc, .slice lA' ln lc'] from H2.out.set 1 _)
  have H42 := Lib.hid (H4.out.far (p := ⟨w.heap.size, 1, none⟩) (by simp) (.slice lA' ln lc'))
  generalize w1.setCell ⟨w.heap.size, 1, none⟩ (.slice lA' ln lc') = W2 at *
  clear c2 f2 z2
  have hfr : ∀ g, lA' = some ⟨g, 0, none⟩ → w.heap.size + 2 ≤ g := fun g h => by subst h; have := HO.out.from; simpa using this
  have HFr := Lib.hid hfr
  clear hfr
  go_loopw [17] (fun v wr => ∃ j : Nat, j ≤ ln ∧ v = .int .i64 j ∧ Below w.heap.size w wr ∧ Has wr w.heap.size 25 #[.slice pA pn pc, .slice lA' ln lc'] ∧ Has wr (w.heap.size + 1) 25 #[.slice none 0 0, .slice none 0 0] ∧ Own eL (w.heap.size + 2) (.slice lA' ln lc') (midF (tookC k) ls j) wr) (fun v _ => ln - (intOf v).toNat)
  case atStart => exact ⟨0, by omega, rfl, HB2.out, H22.out, H42.out, by simpa [midF] using HSt.out.lower (by simp)⟩
  case round =>
    obtain ⟨j, hj, rfl, hB, h2, h4, hO⟩ := hrel
    have HB3 := Lib.hid hB; have H23 := Lib.hid h2; have H43 := Lib.hid h4; have HO3 := Lib.hid hO
    clear hB h2 h4 hO
    by_cases hjn : j < ln
    · have hjl : j < ls.length := by rw [HLL.out]; exact hjn
      have hgx := midF_get (tookC k) ls j hjl
      have HMs := Lib.hid (midF_set (tookC k) ls j hjl)
      have HXb := Lib.hid (HBd.out _ (List.getElem_mem hjl))
      obtain ⟨x, hxx⟩ : ∃ x, x = ls[j] := ⟨_, rfl⟩
      rw [← hxx] at hgx HMs HXb
      obtain ⟨g, rfl⟩ := HO3.out.addr (by omega)
      have hgf := HFr.out g rfl
      obtain ⟨x0, x1, x2⟩ := x
      have HCl := Lib.hid fun (w' : World) (hb : Below wr.heap.size wr w') => (show w'.cell? ⟨g, j * 3 + 2, none⟩ = some (.int .i64 x2) from by
        obtain ⟨A', c', e1, h1, _⟩ := (HO3.out.keep hb).sl
        simp only [Value.slice.injEq] at e1
        obtain ⟨rfl, e2, _⟩ := e1
        have := h1.range La.cs_len hgx 2 _ rfl; simpa using this)
      have hcb := clr_bits HXb.out.1 HXb.out.2 hk6
      have HSet := Lib.hid fun (w' : World) (hb : Below wr.heap.size wr w') => (HO3.out.keep hb).setAt eL_ok (x' := tookC k ⟨x0, x1, x2⟩) (u := .int .i64 (clrN x2 k)) (j := 2) hgx (by decide) rfl
      rw [HMs.out] at HSet
      have HFz := Lib.hid fun (w' : World) (hb : Below wr.heap.size wr w') => (HO3.out.keep hb).frozen (j * 3 + 2)
      have hgl := HO3.out.blt
      clear hgx hxx
      go_wp2
      refine wp_free 11 (by kernel_rfl) (by kernel_rfl) (by kernel_rfl) (by decide) ?_
      intro K hK
      iterate 7 (apply Obl.val (by decide) (by kernel_rfl); (intro w' hb; have := (H23.out.after hb).cell; have := HCl.out w' hb; go_simp; rfl))
      apply Obl.val (v := .int .i64 (2 ^ k)) (by decide) (by kernel_rfl)
      · intro w' hb; go_simp; rw [IntKind.wrap_i64]; omega
      apply Obl.val (v := .int .i64 (clrN x2 k)) (by decide) (by kernel_rfl)
      · intro w' hb; go_simp
      iterate 2 (apply Obl.val (by decide) (by kernel_rfl); (intro w' hb; go_simp; rfl))
      apply Obl.nil
      apply hK
      intro w2 hb
      simp only [Act.put, List.setIfInBounds_toArray, List.set_cons_zero, List.set_cons_succ, List.drop_succ_cons, List.drop_zero]
      clear hK K
      have HB4 := Lib.hid (nextB HB3.out hb); have H24 := Lib.hid (H23.out.after hb); have H44 := Lib.hid (H43.out.after hb); have HS4 := Lib.hid (HSet.out w2 hb)
      have q1 := HCl.out w2 hb; have q2 := HFz.out w2 hb
      clear hb
      go_wp2
      go_roundw
      case rel => exact ⟨j + 1, by omega, by go_num, setB HB4.out (by simp; omega) _, H24.out.far (by simp; omega) _, H44.out.far (by simp; omega) _, HS4.out⟩
      case measure => simp [intOf]; omega
    · have hje : j = ln := by omega
      subst hje
      have HE := Lib.hid (show midF (tookC k) ls j = takenL ls k [] by
        unfold midF takenL
        rw [List.take_of_length_le (by rw [HLL.out]; exact Nat.le_refl _), List.drop_eq_nil_of_le (by rw [HLL.out]; exact Nat.le_refl _)]; simp)
      rw [HE.out] at HO3
      clear HE
      go_wp2
      go_loopw [34] (fun v wi => ∃ i : Nat, i ≤ n ∧ v = .int .i64 i ∧ Below w.heap.size w wi ∧ Has wi w.heap.size 25 #[.slice pA pn pc, .slice lA' j lc'] ∧ Has wi (w.heap.size + 1) 25 #[.slice none 0 0, .slice none 0 0] ∧ Own eL (w.heap.size + 2) (.slice lA' j lc') (takenL ls k (ts.take i)) wi) (fun v _ => n - (intOf v).toNat)
      case atStart => exact ⟨0, by omega, rfl, HB3.out, H23.out, H43.out, HO3.out⟩
      case round =>
        obtain ⟨i, hin, rfl, hB, h2, h4, hO⟩ := hrel
        clear HB3 H23 H43 HO3
        have HB3 := Lib.hid hB; have H23 := Lib.hid h2; have H43 := Lib.hid h4; have HO3 := Lib.hid hO
        clear hB h2 h4 hO
        by_cases hkn : i < n
        · have hkl : i < ts.length := by rw [HN.out]; exact hkn
          obtain ⟨b, o, he⟩ := HA.out.addr (by omega)
          have hdk := HD.out _ (List.getElem_mem hkl)
          have HT := Lib.hid (takenL_take ls k ts i hkl)
          have hx : (ints ts)[i]? = some ((ts[i] : Nat) : Int) := by simp [ints, List.getElem?_eq_getElem hkl]
          obtain ⟨d, hdd⟩ : ∃ d, d = ts[i] := ⟨_, rfl⟩
          rw [← hdd] at hdk HT hx
          subst he
          have hc : wr.cell? ⟨b, o + i, none⟩ = some (.int .i64 d) := by have := (HA.out.keep HB3.out).range inC_len hx 0 _ rfl; simpa using this
          have hdl : d < (takenL ls k (ts.take i)).length := by rw [takenL_len, HLL.out]; exact hdk
          have hgx := List.getElem?_eq_getElem hdl
          have HXb := Lib.hid (HTk.out (ts.take i) _ (List.getElem_mem hdl))
          obtain ⟨x, hxx⟩ : ∃ x, x = (takenL ls k (ts.take i))[d] := ⟨_, rfl⟩
          rw [← hxx] at hgx HXb
          have HMs := Lib.hid (show takenL ls k (ts.take (i + 1)) = (takenL ls k (ts.take i)).set d (tookS k x) by rw [HT.out, list_set_modify _ _ _ _ hgx])
          obtain ⟨g, rfl⟩ := HO3.out.addr (by omega)
          have hgf := HFr.out g rfl
          obtain ⟨x0, x1, x2⟩ := x
          have HCl := Lib.hid fun (w' : World) (hb : Below wr.heap.size wr w') => (show w'.cell? ⟨g, d * 3 + 2, none⟩ = some (.int .i64 x2) from by
            obtain ⟨A', c', e1, h1, _⟩ := (HO3.out.keep hb).sl
            simp only [Value.slice.injEq] at e1
            obtain ⟨rfl, e2, _⟩ := e1
            have := h1.range La.cs_len hgx 2 _ rfl; simpa using this)
          have hcb := set_bits HXb.out.1 HXb.out.2 hk6
          have HSet := Lib.hid fun (w' : World) (hb : Below wr.heap.size wr w') => (HO3.out.keep hb).setAt eL_ok (x' := tookS k ⟨x0, x1, x2⟩) (u := .int .i64 (setN x2 k)) (j := 2) hgx (by decide) rfl
          rw [← HMs.out] at HSet
          have HFz := Lib.hid fun (w' : World) (hb : Below wr.heap.size wr w') => (HO3.out.keep hb).frozen (d * 3 + 2)
          have hgl := HO3.out.blt
          clear hgx hxx hx hdd
          go_wp2
          refine wp_free 11 (by kernel_rfl) (by kernel_rfl) (by kernel_rfl) (by decide) ?_
          intro K hK
          iterate 7 (apply Obl.val (by decide) (by kernel_rfl); (intro w' hb; have := (H23.out.after hb).cell; have := HCl.out w' hb; go_simp; rfl))
          apply Obl.val (v := .int .i64 (2 ^ k)) (by decide) (by kernel_rfl)
          · intro w' hb; go_simp; rw [IntKind.wrap_i64]; omega
          apply Obl.val (v := .int .i64 (setN x2 k)) (by decide) (by kernel_rfl)
          · intro w' hb; go_simp
          iterate 2 (apply Obl.val (by decide) (by kernel_rfl); (intro w' hb; go_simp; rfl))
          apply Obl.nil
          apply hK
          intro w2 hb
          simp only [Act.put, List.setIfInBounds_toArray, List.set_cons_zero, List.set_cons_succ, List.drop_succ_cons, List.drop_zero]
          clear hK K
          have HB4 := Lib.hid (nextB HB3.out hb); have H24 := Lib.hid (H23.out.after hb); have H44 := Lib.hid (H43.out.after hb); have HS4 := Lib.hid (HSet.out w2 hb)
          have q1 := HCl.out w2 hb; have q2 := HFz.out w2 hb
          have hgl2 : g < w2.heap.size := Nat.lt_of_lt_of_le hgl hb.size
          clear hb
          go_wp2
          go_roundw
          case rel => exact ⟨i + 1, by omega, by go_num, setB HB4.out (by simp; omega) _, H24.out.far (by simp; omega) _, H44.out.far (by simp; omega) _, HS4.out⟩
          case measure => simp [intOf]; omega
        · have hie : i = n := by omega
          subst hie
          have HE := Lib.hid (show ts.take i = ts from List.take_of_length_le (by rw [HN.out]; exact Nat.le_refl _))
          rw [HE.out] at HO3
          have HSl := Lib.hid (show ∀ cs, SlOf La.cs 3 (wr.setRow (w.heap.size + 1) cs) lA' j (takenL ls k ts) from fun cs => by
            obtain ⟨A', c', e1, h1, _⟩ := (HO3.out.setRowFar H43.out (by decide) cs).sl
            simp only [Value.slice.injEq] at e1
            obtain ⟨rfl, e2, _⟩ := e1
            rw [e2]; exact h1)
          go_wp2_with (first
            | (refine wpList_load_row rfl 25 _ rfl w.heap.size rfl 25 _ (0, 0) _ H23.out Tryz.underlying25 rfl (by kernel_rfl) ?_)
            | (refine wpList_store_all rfl 25 _ _ rfl (w.heap.size + 1) rfl _ rfl 25 _ H43.out (by kernel_rfl) rfl (by simp [Value.oneCell']) ?_))
          refine bodyPost_ret (results_cell_row rfl _ _ (w.heap.size + 1) 25 _ (0, 0) _ rfl (H43.out.setRow _) Tryz.underlying25 rfl (by kernel_rfl)) rfl ⟨lA', lc', rfl, ?_, rowB HB3.out (by omega) _⟩
          exact HSl.out _
end Go.Proofs
namespace Go.Proofs
open Go.RowKit Go.Shelf
attribute [local go_sem] Oper.semAt_some
attribute [local go_sem ↓] Go.wp_at_zero Go.wp_at_succ

theorem giving_c (c0 c1 : Value) (k sh : Int) (w : World) :
    Calls Tryz.prog 99 #[.agg #[c0, c1], .int .i64 k, .int .i64 sh] w fun e w' => e = .returned (.func (.func 145) #[] #[.pointer (some ⟨w.heap.size, 0, none⟩), .pointer (some ⟨w.heap.size + 1, 0, none⟩), .pointer (some ⟨w.heap.size + 1 + 1, 0, none⟩)]) ∧
      w' = ((w.alloc (.cells #[c0, c1] 25)).alloc (.cells #[.int .i64 k] 3)).alloc (.cells #[.int .i64 sh] 3) := by
  go_enter Tryz.func99, Tryz.ntmps99
  go_wp2
  exact bodyPost_ret (results_tmp rfl _ _ _) rfl ⟨rfl, rfl⟩

/-- Do trips give a share? -/
def givesB (ps : List Pe) (ls : List La) (k : Nat) (sh : Int) (ts : List Int) : Bool := shareF ps (takenL ls k (nats ts)) k == sh
def tripsL (ps : List Pe) (ls : List La) (k : Nat) (sh : Int) : List (List Int) := (listsL (ints (List.range ls.length))).filter (givesB ps ls k sh)
/-- The blocks of a season, and of three boxes. -/
def SvG (g g1 g2 : Nat) (s : Sv) : Nat → Prop := fun k => k = g1 ∨ k = g2 ∨ SvD g s k

set_option maxRecDepth 100000 in
set_option maxHeartbeats 4000000 in
theorem giving_sq (g g1 g2 : Nat) (s : Sv) (k : Nat) (sh : Int) (hs : Seas s.ps s.ls) (hk : k < s.pn) (hk0 : k ≠ 0) (w : World) (hi : s.In w) (hg : Has w g 25 #[.slice s.pA s.pn s.pc, .slice s.lA s.ln s.lc]) (hg1 : Has w g1 3 #[.int .i64 k]) (hg2 : Has w g2 3 #[.int .i64 sh]) :
    Sq 145 #[.pointer (some ⟨g, 0, none⟩), .pointer (some ⟨g1, 0, none⟩), .pointer (some ⟨g2, 0, none⟩)] lsC Ls.Ok (fun ys => ys.map Ls.xs = tripsL s.ps s.ls k sh ∧ ∀ y ∈ ys, y.n = y.xs.length) (SvG g g1 g2 s) w := by
  intro l J W hW hJ hY hJ0
  have HGr := Lib.hid fun (pre : List Ls) (W1 W2 : World) (hj : J pre W1) (hb : Below W1.heap.size W1 W2) => hJ pre W1 W2 none hj ⟨hb.os, hb.tape, hb.output, hb.size, fun i hi _ => hb.block i hi⟩ (fun r e => by cases e)
  have hl6 : s.ln ≤ 6 := by rw [← hi.ls.1]; exact hs.few
  have HUp := Lib.hid fun (W' : World) => upTo_c s.ln (by omega) W'
  have HI := Lib.hid (hi.keep hW); have hgW := hg.after hW; have hg1W := hg1.after hW; have hg2W := hg2.after hW
  have HLL := Lib.hid hi.ls.1; have HPL := Lib.hid hi.ps.1
  have gl := hgW.cell
  have HG := Lib.hid hgW; have HG1 := Lib.hid hg1W; have HG2 := Lib.hid hg2W
  have glt := hgW.lt
  have HS := Lib.hid hs; have HY := Lib.hid hY; have HJ := Lib.hid hJ; have HJ0 := Lib.hid hJ0
  obtain ⟨pA, lA, pn, pc, ln, lc, ps, ls⟩ := s
  simp only at *
  clear hi hg hg1 hg2 hW hJ hY hJ0 hs hg1W hg2W
  have FY := Lib.hid (Has.new W 164 #[.func (.yield l) #[] #[]])
  have B0 := Lib.hid (newB (Below.refl W.heap.size W) (.cells #[.func (.yield l) #[] #[]] 164))
  refine callsIn_wide.1 (callsIn_of_wp_marks (n := 3) Tryz.func145 rfl trivial ?_ rfl)
  refine wpIn_wide.2 ?_
  simp only [Tryz.ntmps145, List.size_toArray, List.length_cons, List.length_nil, Nat.reduceAdd, Nat.reduceSub, Array.replicate_succ, Array.replicate_zero, List.push_toArray, List.append_toArray, List.nil_append, List.cons_append]
  have hrl : (ints (List.range ln)).length = ln := by simp [ints]
  go_wp2_with (first
    | (go_at_call 147; refine (HUp.out _).mono ?_; rintro e w1 ⟨v, rfl, ho, hb⟩; obtain ⟨A, c, rfl, hsl, _⟩ := Own.sl ho; rw [hrl] at ho hsl ⊢; have HO1 := Lib.hid ho; have HB1 := Lib.hid (nextB B0.out hb); have FY1 := Lib.hid (FY.out.after hb); clear ho hb hsl)
    | (go_at_call 146; refine (lists_c _ _ _ _).mono ?_; rintro e w2 ⟨rfl, rfl⟩))
  have B2 := Lib.hid (newB HB1.out (.cells #[.slice A ln c] 30))
  have HO2 := Lib.hid (HO1.out.alloc (.cells #[.slice A ln c] 30))
  have G2 := Lib.hid (Has.new w1 30 #[.slice A ln c])
  have hcap := HO1.out.cap hrl.symm
  have hz1 := HB1.out.size
  have FY2 := Lib.hid (FY1.out.alloc (.cells #[.slice A ln c] 30))
  have hw1 : w1.heap.size < (w1.alloc (.cells #[.slice A ln c] 30)).heap.size := by simp
  generalize w1.alloc (.cells #[.slice A ln c] 30) = Wl at *
  have HA0 := Lib.hid (show ∀ a, A = some a → W.heap.size ≤ a.block from fun a ha => by
    subst ha
    rcases HO1.out.2 with ⟨h1, _⟩ | ⟨g', cap', cur, e1, e2, _⟩
    · cases h1
    · simp only [Value.slice.injEq, Option.some.injEq] at e1
      simp at e2; rw [e1.1]; show W.heap.size ≤ g'; omega)
  have hSq := lists_sq w1.heap.size A ln c (ints (List.range ln)) (by rw [hrl]; omega) hcap Wl (Own.toSl HO2.out hrl.symm) G2.out (fun b => ∃ a, A = some a ∧ a.block = b) (fun a ha => ⟨a, ha, rfl⟩)
  have hlW := B2.out.size
  refine wp_seq (α := Ls) 171 #[.pointer (some ⟨w1.heap.size, 0, none⟩)] rfl (enters_of Tryz.func171 (by kernel_rfl) rfl) hSq (fun x X Y row h hg hr => ⟨h.1.own hg hr, h.2⟩) (Below.refl _ _) (fun _ => rfl)
    (fun pre X => J (pre.filter fun x => givesB ps ls k sh x.xs) X ∧ (Sv.mk pA lA pn pc ln lc ps ls).In X ∧ Has X g 25 #[.slice pA pn pc, .slice lA ln lc] ∧ Has X g1 3 #[.int .i64 k] ∧ Has X g2 3 #[.int .i64 sh] ∧ Has X W.heap.size 164 #[.func (.yield l) #[] #[]] ∧ W.heap.size ≤ X.heap.size ∧ ∀ y ∈ pre, y.n = y.xs.length) ?own ⟨HGr.out _ _ _ HJ0.out B2.out, HI.out.keep B2.out, HG.out.after B2.out, HG1.out.after B2.out, HG2.out.after B2.out, FY2.out, hlW, fun y h => by simp at h⟩
    (fun x a' X => a' = { tmps := #[.func (.yield l) #[] #[], .pointer (some ⟨g, 0, none⟩), .pointer (some ⟨g1, 0, none⟩), .pointer (some ⟨g2, 0, none⟩), .pointer (some ⟨W.heap.size, 0, none⟩), .slice x.A x.n x.c, .pointer (some ⟨g, 1, none⟩), .slice lA ln lc, .int .i64 ln, .slice A ln c,
      .func (.func 171) #[] #[.pointer (some ⟨w1.heap.size, 0, none⟩)], .slice x.A x.n x.c, undef, undef, undef, undef, undef, undef, undef, undef, undef, undef, undef, undef, undef, undef, undef], defers := [] }) (fun a' x W W' row h _ _ => h) ?assign ?body ?done
  case own =>
    rintro pre X Y row ⟨a1, a2, a3, a4, a5, a6, a7, a8⟩ hg hr
    exact ⟨OwnFrom.mono (I := J) HJ.out hlW _ X Y row a1 hg hr, ⟨own_sl a2.ps hg hr, own_sl a2.ls hg hr⟩, own_has () _ _ _ a3 hg hr, own_has () _ _ _ a4 hg hr, own_has () _ _ _ a5 hg hr, own_has () _ _ _ a6 hg hr, Nat.le_trans a7 hg.size, a8⟩
  case assign =>
    intro l2 pre x X K hsz hI hx hK
    have HK := Lib.hid hK
    clear hK
    unfold lsC
    gi_wp2
    exact HK.out _ _ (KeepsFrom.refl _ _) (Kc.refl _ _ _) hI hx rfl
  case body =>
    rintro l2 pre x a' X hsz ⟨a1, a2, a3, a4, a5, a6, a7, a8⟩ ⟨hx1, hx2⟩ rfl
    obtain ⟨ts, hts, hxs⟩ := List.sublist_map_iff.1 (listsL_mem hx2)
    have hmem : ∀ t ∈ ts, t < ln := fun t ht => List.mem_range.1 (hts.subset ht)
    have hdl : ts.length ≤ 6 := by have := hts.length_le; rw [List.length_range] at this; omega
    have hxk := hx1
    obtain ⟨xA, xn, xc, xxs⟩ := x
    simp only at hxs hx1 hx2
    have hxs' : xxs = ints ts := hxs
    subst hxs'
    have hnat : nats (ints ts) = ts := nats_ints ts
    have hxn : xn = ts.length := by have := hx1.2; simpa [ints] using this
    have HSd := Lib.hid (HS.out.took (by rw [HPL.out]; exact hk) hk0 ts)
    have HD := Lib.hid fun (X' : World) (hb : Below X.heap.size X X') => taken_c ⟨pA, lA, pn, pc, ln, lc, ps, ls⟩ HS.out k hk hk0 xA xn xc ts (by omega) hmem X' (a2.keep hb) (Own.toSl (hx1.1.keep hb) hx1.2)
    have HYr := Lib.hid fun (X' : World) (hb : Below X.heap.size X X') => HY.out (pre.filter fun x => givesB ps ls k sh x.xs) ⟨xA, xn, xc, ints ts⟩ X' (HGr.out _ _ _ a1 hb) (hxk.keep hb) (Nat.le_trans a7 hb.size)
    have HJ1 := Lib.hid a1
    have HX := Lib.hid a2; have HXg := Lib.hid a3; have HXg1 := Lib.hid a4; have HXg2 := Lib.hid a5; have HXy := Lib.hid a6; have H8 := Lib.hid a8; have HXn := Lib.hid hx1.2
    have HGB := Lib.hid (show givesB ps ls k sh (ints ts) = (shareF ps (takenL ls k ts) k == sh) by unfold givesB; rw [hnat])
    clear a1 a2 a3 a4 a5 a6 a8 hx1 hx2 hts hxk
    subst hxn
    cases hcmp : (shareF ps (takenL ls k ts) k == sh)
    · rw [hcmp] at HGB
      gi_wp2
      apply wpIn_loose 12 [.v _, .v _, .v _, .r (fun v w' => ∃ lA' lc', v = .agg #[.slice pA pn pc, .slice lA' ln lc'] ∧ SlOf La.cs 3 w' lA' ln (takenL ls k ts)),
        .r (fun v w' => ∃ lA' lc' b, v = .agg #[.slice pA pn pc, .slice lA' ln lc', .int .i64 (denF ps (takenL ls k ts)), .map (some b)] ∧ (Sv.mk pA lA' pn pc ln lc' ps (takenL ls k ts)).In w' ∧ MapAt w' b (clF ps (takenL ls k ts))), .v _, .v _, .v _, .v (.bool false), .v (.bool false), .v undef, .v undef] (by kernel_rfl) (by kernel_rfl) (by kernel_rfl) (by kernel_rfl) (by decide) rfl
      intro K hK
      refine OblS.row rfl 25 _ rfl g rfl 25 _ _ HXg.out Tryz.underlying25 rfl (by kernel_rfl) ?_
      apply OblS.val rfl
      · intro w' hb _; have := (HXg1.out.after hb).cell; go_simp; rfl
      apply OblS.val rfl
      · intro w' hb _; go_simp; rfl
      apply OblS.callR 148
      · rintro v w1 w2 ⟨lA', lc', h1, h2⟩ hb; exact ⟨lA', lc', h1, h2.keep hb⟩
      · rfl
      · intro w' hb _
        apply Exists.intro; apply And.intro; (go_simp; rfl); refine (HD.out w' hb).mono ?_
        rintro e w2 ⟨lA', lc', rfl, hs, hb2⟩
        exact ⟨_, rfl, ⟨lA', lc', rfl, hs⟩, hb2⟩
      intro v4
      apply OblS.callR 80
      · rintro v w1 w2 ⟨lA', lc', b, h1, h2, h3⟩ hb; exact ⟨lA', lc', b, h1, h2.keep hb, h3.keep hb⟩
      · rfl
      · intro w' hb hH
        obtain ⟨lA', lc', rfl, hs⟩ := hH _ (List.mem_cons_self ..) (by kernel_rfl)
        apply Exists.intro; apply And.intro; (go_simp; rfl); refine (settle_c ⟨pA, lA', pn, pc, ln, lc', ps, takenL ls k ts⟩ HSd.out w' ⟨HX.out.ps.keep hb, hs⟩).mono ?_
        rintro e w2 ⟨b, rfl, hm, hb2⟩
        exact ⟨_, rfl, ⟨lA', lc', b, rfl, ⟨(HX.out.ps.keep hb).keep hb2, hs.keep hb2⟩, hm⟩, hb2⟩
      intro v5
      apply OblS.val rfl
      · intro w' hb _; have := (HXg1.out.after hb).cell; go_simp; rfl
      apply OblS.call (v := .int .i64 (shareF ps (takenL ls k ts) k)) 136 rfl
      · intro w' hb hH
        obtain ⟨lA', lc', b, rfl, hi, hm⟩ := hH _ (List.mem_cons_self ..) (by kernel_rfl)
        apply Exists.intro; apply And.intro; (go_simp; rfl); exact share_c ⟨pA, lA', pn, pc, ln, lc', ps, takenL ls k ts⟩ HSd.out b k w' hi hm
      apply OblS.val rfl
      · intro w' hb _; have := (HXg2.out.after hb).cell; go_simp; rfl
      apply OblS.val rfl
      · intro w' hb _; go_simp
      apply OblS.val rfl
      · intro w' hb _; go_simp
      apply OblS.skip (by kernel_rfl)
      apply OblS.skip (by kernel_rfl)
      apply OblS.nil
      apply hK
      intro w2 hb hH
      clear hH hK K
      simp only [Act.put, List.setIfInBounds_toArray, List.set_cons_zero, List.set_cons_succ, List.drop_succ_cons, List.drop_zero]
      have HB3 := Lib.hid hb
      clear hb
      gi_wp2
      repeat (refine ⟨(fun f hf => nomatch hf), ?_⟩; gi_wp2)
      have hfl : (pre ++ [(⟨xA, ts.length, xc, ints ts⟩ : Ls)]).filter (fun x => givesB ps ls k sh x.xs) = pre.filter fun x => givesB ps ls k sh x.xs := by
        rw [List.filter_append]; simp [HGB.out]
      refine ⟨keeps_below HB3.out, Kc.below HB3.out, ?_, HX.out.keep HB3.out, HXg.out.after HB3.out, HXg1.out.after HB3.out, HXg2.out.after HB3.out, HXy.out.after HB3.out, Nat.le_trans a7 HB3.out.size, fun y hy => ?_⟩
      · rw [hfl]; exact HGr.out _ _ _ HJ1.out HB3.out
      · rcases List.mem_append.1 hy with h | h
        · exact H8.out y h
        · simp at h; subst h; exact HXn.out
    · rw [hcmp] at HGB
      gi_wp2
      apply wpIn_loose 12 [.v _, .v _, .v _, .r (fun v w' => ∃ lA' lc', v = .agg #[.slice pA pn pc, .slice lA' ln lc'] ∧ SlOf La.cs 3 w' lA' ln (takenL ls k ts)),
        .r (fun v w' => ∃ lA' lc' b, v = .agg #[.slice pA pn pc, .slice lA' ln lc', .int .i64 (denF ps (takenL ls k ts)), .map (some b)] ∧ (Sv.mk pA lA' pn pc ln lc' ps (takenL ls k ts)).In w' ∧ MapAt w' b (clF ps (takenL ls k ts))), .v _, .v _, .v _, .v (.bool true), .v (.bool true), .v _, .v _] (by kernel_rfl) (by kernel_rfl) (by kernel_rfl) (by kernel_rfl) (by decide) rfl
      intro K hK
      refine OblS.row rfl 25 _ rfl g rfl 25 _ _ HXg.out Tryz.underlying25 rfl (by kernel_rfl) ?_
      apply OblS.val rfl
      · intro w' hb _; have := (HXg1.out.after hb).cell; go_simp; rfl
      apply OblS.val rfl
      · intro w' hb _; go_simp; rfl
      apply OblS.callR 148
      · rintro v w1 w2 ⟨lA', lc', h1, h2⟩ hb; exact ⟨lA', lc', h1, h2.keep hb⟩
      · rfl
      · intro w' hb _
        apply Exists.intro; apply And.intro; (go_simp; rfl); refine (HD.out w' hb).mono ?_
        rintro e w2 ⟨lA', lc', rfl, hs, hb2⟩
        exact ⟨_, rfl, ⟨lA', lc', rfl, hs⟩, hb2⟩
      intro v4
      apply OblS.callR 80
      · rintro v w1 w2 ⟨lA', lc', b, h1, h2, h3⟩ hb; exact ⟨lA', lc', b, h1, h2.keep hb, h3.keep hb⟩
      · rfl
      · intro w' hb hH
        obtain ⟨lA', lc', rfl, hs⟩ := hH _ (List.mem_cons_self ..) (by kernel_rfl)
        apply Exists.intro; apply And.intro; (go_simp; rfl); refine (settle_c ⟨pA, lA', pn, pc, ln, lc', ps, takenL ls k ts⟩ HSd.out w' ⟨HX.out.ps.keep hb, hs⟩).mono ?_
        rintro e w2 ⟨b, rfl, hm, hb2⟩
        exact ⟨_, rfl, ⟨lA', lc', b, rfl, ⟨(HX.out.ps.keep hb).keep hb2, hs.keep hb2⟩, hm⟩, hb2⟩
      intro v5
      apply OblS.val rfl
      · intro w' hb _; have := (HXg1.out.after hb).cell; go_simp; rfl
      apply OblS.call (v := .int .i64 (shareF ps (takenL ls k ts) k)) 136 rfl
      · intro w' hb hH
        obtain ⟨lA', lc', b, rfl, hi, hm⟩ := hH _ (List.mem_cons_self ..) (by kernel_rfl)
        apply Exists.intro; apply And.intro; (go_simp; rfl); exact share_c ⟨pA, lA', pn, pc, ln, lc', ps, takenL ls k ts⟩ HSd.out b k w' hi hm
      apply OblS.val rfl
      · intro w' hb _; have := (HXg2.out.after hb).cell; go_simp; rfl
      apply OblS.val rfl
      · intro w' hb _; go_simp
      apply OblS.val rfl
      · intro w' hb _; go_simp
      apply OblS.val (by kernel_rfl)
      · intro w' hb _; have := (HXy.out.after hb).cell; go_simp; rfl
      apply OblS.val (by kernel_rfl)
      · intro w' hb _; go_simp; rfl
      apply OblS.nil
      apply hK
      intro w2 hb hH
      clear hH hK K
      simp only [Act.put, List.setIfInBounds_toArray, List.set_cons_zero, List.set_cons_succ, List.drop_succ_cons, List.drop_zero]
      have HB3 := Lib.hid hb
      clear hb
      obtain ⟨fn, tmps, assign, body, hy, hR⟩ := HYr.out w2 HB3.out
      unfold lsC at hy
      gi_wp2
      refine RoundIn.mono (roundIn_wide hR) ?_
      rintro e W3 ⟨rfl, hJ3, hk3⟩
      have HJ3 := Lib.hid hJ3; have HK3 := Lib.hid hk3
      clear hJ3 hk3 hy hR
      gi_wp2
      have hfl : (pre ++ [(⟨xA, ts.length, xc, ints ts⟩ : Ls)]).filter (fun x => givesB ps ls k sh x.xs) = (pre.filter fun x => givesB ps ls k sh x.xs) ++ [⟨xA, ts.length, xc, ints ts⟩] := by
        rw [List.filter_append]; simp [HGB.out]
      refine ⟨(keeps_below HB3.out).trans (HK3.out.keeps hlW), (Kc.below HB3.out).trans (HK3.out.wide (fun b ⟨a, ha, hb⟩ => .inr (by rw [← hb]; exact HA0.out a ha)) (by omega)), ?_, ?_, ?_, ?_, ?_, ?_, ?_, ?_⟩
      · rw [hfl]; exact HJ3.out
      · exact ⟨HK3.out.sl (fun h a ha => .inl (.inr (.inr (.inr (.inl ⟨h, a, ha, rfl⟩))))) (HX.out.ps.keep HB3.out), HK3.out.sl (fun h a ha => .inl (.inr (.inr (.inr (.inr ⟨h, a, ha, rfl⟩))))) (HX.out.ls.keep HB3.out)⟩
      · exact HK3.out.has (HXg.out.after HB3.out) (.inl (.inr (.inr (.inl rfl))))
      · exact HK3.out.has (HXg1.out.after HB3.out) (.inl (.inl rfl))
      · exact HK3.out.has (HXg2.out.after HB3.out) (.inl (.inr (.inl rfl)))
      · exact HK3.out.has (HXy.out.after HB3.out) (.inr (Nat.le_refl _))
      · exact Nat.le_trans a7 (Nat.le_trans HB3.out.size HK3.out.size)
      · intro y hy
        rcases List.mem_append.1 hy with h | h
        · exact H8.out y h
        · simp at h; subst h; exact HXn.out
  case done =>
    rintro Q0 ys X hQ hS ⟨a1, a2, a3, a4, a5, a6, a7, a8⟩ hK
    have HKd := Lib.hid hK; have HJx := Lib.hid a1; have HSx := Lib.hid hS; have H8 := Lib.hid a8
    clear a1 a2 a3 a4 a5 a6 a8 hK hS hSq
    go_wp2
    refine leaves_marks [Q0] X (by simp) (fun D' hD' => by simp at hD'; subst hD'; exact HKd.out) (fun w' y1 y2 y3 y4 y5 => ?_)
    refine ⟨_, results_none rfl _ _ _, ⟨_, rfl⟩, _, ?_, HJ.out _ X w' (some Q0) HJx.out ⟨y2, y3, y4, by rw [y1]; exact Nat.le_refl _, fun i _ hne => y5 i (by simp; intro e; exact hne (by rw [e]))⟩ (fun r e => by cases e; exact ⟨by omega, _, HKd.out, rfl⟩)⟩
    refine ⟨?_, fun y hy => H8.out y (List.mem_filter.1 hy).1⟩
    have hS : ys.map Ls.xs = listsL (ints (List.range ln)) := HSx.out
    unfold tripsL
    rw [HLL.out, ← hS, List.filter_map]; rfl
end Go.Proofs
namespace Go.Proofs
open Go.RowKit Go.Shelf
attribute [local go_sem ↓] Go.wp_at_zero Go.wp_at_succ

def ltLen (a b : List Int) : Bool := decide (a.length < b.length)
theorem best_fold : ∀ (ys : List Ls) (o : Option Ls), (∀ y ∈ ys, y.n = y.xs.length) → (∀ b, o = some b → b.n = b.xs.length) → (ys.foldl (better1 ltN) o).map Ls.xs = (ys.map Ls.xs).foldl (better1 ltLen) (o.map Ls.xs)
  | [], o, _, _ => rfl
  | y :: r, o, h1, h2 => by
    have hy := h1 y (by simp)
    simp only [List.foldl_cons, List.map_cons]
    have e : (better1 ltN o y).map Ls.xs = better1 ltLen (o.map Ls.xs) y.xs := by
      cases o with
      | none => rfl
      | some b =>
        have hb := h2 b rfl
        simp only [better1, ltN, ltLen, Option.map_some, hy, hb]
        by_cases hlt : y.xs.length < b.xs.length
        · simp [hlt]
        · simp [hlt]
    rw [best_fold r _ (fun z hz => h1 z (by simp [hz])) (fun b hb => ?_), e]
    cases o with
    | none => simp only [better1, Option.some.injEq] at hb; subst hb; exact hy
    | some b' =>
      simp only [better1] at hb
      split at hb
      · cases hb; exact hy
      · cases hb; exact h2 _ rfl
theorem best_map {ys : List Ls} {L : List (List Int)} (h : ys.map Ls.xs = L) (h1 : ∀ y ∈ ys, y.n = y.xs.length) : (bestL ltN ys).map Ls.xs = bestL ltLen L := by
  have := best_fold ys none h1 (fun b hb => by cases hb)
  unfold bestL
  rw [this, h]; rfl

theorem SvG.lt {g g1 g2 : Nat} {s : Sv} {w : World} (hi : s.In w) (hg : g < w.heap.size) (h1 : g1 < w.heap.size) (h2 : g2 < w.heap.size) : ∀ k, SvG g g1 g2 s k → k < w.heap.size := by
  rintro k (rfl | rfl | h)
  · exact h1
  · exact h2
  · exact SvD.lt hi hg k h

def tripsN (o : Option (List Int)) : List Int × Int := match o with | none => ([], 5) | some t => (t, 0)
/-- What Trips answers: landings, and the error. -/
def tripsF (ps : List Pe) (ls : List La) (p coins : Int) : List Int × Int :=
  if sharerB ps ls p && !(p == 0) && !decide (coins < 0) then tripsN (bestL ltLen (tripsL ps ls p.toNat coins)) else ([], 2)

set_option maxRecDepth 50000 in
set_option maxHeartbeats 4000000 in
theorem Trips_c (s : Sv) (p coins : Int) (hpn : s.pn ≤ 1000000) (hln : s.ln ≤ 1000000) (w : World) (hi : s.In w) :
    Calls Tryz.prog 43 #[s.val, .int .i64 p, .int .i64 coins] w fun e w' => ∃ v, e = .returned (.tuple #[v, .int .i64 (tripsF s.ps s.ls p coins).2]) ∧ Own eI 0 v (tripsF s.ps s.ls p coins).1 w' ∧ Below w.heap.size w w' := by
  have HSh := Lib.hid fun (w' : World) (hb : Below w.heap.size w w') => isSharer_c s p hpn hln w' (hi.keep hb)
  cases c1 : sharerB s.ps s.ls p
  · have HE := Lib.hid (show tripsF s.ps s.ls p coins = ([], 2) by simp [tripsF, c1])
    rw [c1] at HSh
    rw [HE.out]
    clear hi c1
    obtain ⟨pA, lA, pn, pc, ln, lc, ps, ls⟩ := s
    simp only [Sv.val] at *
    have F0 := Lib.hid (Has.new w 25 #[.slice pA pn pc, .slice lA ln lc])
    have B0 := Lib.hid (newB (Below.refl w.heap.size w) (.cells #[.slice pA pn pc, .slice lA ln lc] 25))
    go_enter Tryz.func43, Tryz.ntmps43
    go_wp2_with (first
      | (refine wpList_load_row rfl 25 _ rfl w.heap.size rfl 25 _ (0, 0) _ F0.out Tryz.underlying25 rfl (by kernel_rfl) ?_)
      | (go_at_call 94; refine (HSh.out _ B0.out).mono ?_; rintro e w1 ⟨rfl, hb1⟩; have HB1 := Lib.hid (nextB B0.out hb1); clear hb1))
    exact bodyPost_ret (results_tmp2 rfl _ _ _) rfl ⟨_, rfl, Own.nil _ _ _, HB1.out⟩
  · have hp : inB p 0 ((s.pn : Int) - 1) = true := by
      simp only [sharerB, Bool.and_eq_true, hi.ps.1] at c1; exact c1.1.2
    have hse : Seas s.ps s.ls := (seas_iff _ _).1 (by simp only [sharerB, Bool.and_eq_true] at c1; exact c1.1.1)
    simp only [inB, decide_eq_true_eq] at hp
    obtain ⟨k, rfl⟩ : ∃ k : Nat, p = k := ⟨p.toNat, by omega⟩
    have HE := Lib.hid (show tripsF s.ps s.ls k coins = if !((k : Int) == 0) && !decide (coins < 0) then tripsN (bestL ltLen (tripsL s.ps s.ls k coins)) else ([], 2) by simp [tripsF, c1])
    rw [c1] at HSh
    by_cases hk0 : k = 0
    · have HE2 := Lib.hid (show tripsF s.ps s.ls k coins = ([], 2) by rw [HE.out, hk0]; simp)
      rw [HE2.out]
      subst hk0
      clear hi c1 hse hp HE HE2
      obtain ⟨pA, lA, pn, pc, ln, lc, ps, ls⟩ := s
      simp only [Sv.val] at *
      have F0 := Lib.hid (Has.new w 25 #[.slice pA pn pc, .slice lA ln lc])
      have B0 := Lib.hid (newB (Below.refl w.heap.size w) (.cells #[.slice pA pn pc, .slice lA ln lc] 25))
      go_enter Tryz.func43, Tryz.ntmps43
      go_wp2_with (first
        | (refine wpList_load_row rfl 25 _ rfl w.heap.size rfl 25 _ (0, 0) _ F0.out Tryz.underlying25 rfl (by kernel_rfl) ?_)
        | (go_at_call 94; refine (HSh.out _ B0.out).mono ?_; rintro e w1 ⟨rfl, hb1⟩; have HB1 := Lib.hid (nextB B0.out hb1); clear hb1))
      exact bodyPost_ret (results_tmp2 rfl _ _ _) rfl ⟨_, rfl, Own.nil _ _ _, HB1.out⟩
    · have hkz : ((k : Int) == 0) = false := by simp; exact hk0
      rw [hkz] at HE
      by_cases hcn : coins < 0
      · have HE2 := Lib.hid (show tripsF s.ps s.ls k coins = ([], 2) by rw [HE.out]; simp [hcn])
        rw [HE2.out]
        clear hi c1 hse hp HE HE2
        obtain ⟨pA, lA, pn, pc, ln, lc, ps, ls⟩ := s
        simp only [Sv.val] at *
        have F0 := Lib.hid (Has.new w 25 #[.slice pA pn pc, .slice lA ln lc])
        have B0 := Lib.hid (newB (Below.refl w.heap.size w) (.cells #[.slice pA pn pc, .slice lA ln lc] 25))
        go_enter Tryz.func43, Tryz.ntmps43
        go_wp2_with (first
          | (refine wpList_load_row rfl 25 _ rfl w.heap.size rfl 25 _ (0, 0) _ F0.out Tryz.underlying25 rfl (by kernel_rfl) ?_)
          | (go_at_call 94; refine (HSh.out _ B0.out).mono ?_; rintro e w1 ⟨rfl, hb1⟩; have HB1 := Lib.hid (nextB B0.out hb1); clear hb1))
        exact bodyPost_ret (results_tmp2 rfl _ _ _) rfl ⟨_, rfl, Own.nil _ _ _, HB1.out⟩
      · have HE2 := Lib.hid (show tripsF s.ps s.ls k coins = tripsN (bestL ltLen (tripsL s.ps s.ls k coins)) by rw [HE.out]; simp [hcn])
        rw [HE2.out]
        have e145 : ∀ args w, (callFunc 145 args).run Tryz.prog w = .ok (.enter 145 args) w := enters_of Tryz.func145 (by kernel_rfl) rfl
        have e100 : ∀ args w, (callFunc 100 args).run Tryz.prog w = .ok (.enter 100 args) w := enters_of Tryz.func100 (by kernel_rfl) rfl
        have HB := Lib.hid fun (W : World) (hb : Below w.heap.size w W) => (show Calls Tryz.prog 98 #[.func (.func 145) #[] #[.pointer (some ⟨W.heap.size, 0, none⟩), .pointer (some ⟨W.heap.size + 1, 0, none⟩), .pointer (some ⟨W.heap.size + 1 + 1, 0, none⟩)], .func (.func 100) #[] #[]] (((W.alloc (.cells #[.slice s.pA s.pn s.pc, .slice s.lA s.ln s.lc] 25)).alloc (.cells #[.int .i64 k] 3)).alloc (.cells #[.int .i64 coins] 3)) fun e w' =>
            ∃ ys, (ys.map Ls.xs = tripsL s.ps s.ls k coins ∧ ∀ y ∈ ys, y.n = y.xs.length) ∧ e = .returned (.tuple #[lsV (bestL ltN ys), .bool (bestL ltN ys).isSome]) ∧ (∀ x, bestL ltN ys = some x → x.Ok w') ∧ Below W.heap.size W w' from by
          have hb3 := newB (newB (newB (Below.refl W.heap.size W) (.cells #[.slice s.pA s.pn s.pc, .slice s.lA s.ln s.lc] 25)) (.cells #[.int .i64 k] 3)) (.cells #[.int .i64 coins] 3)
          refine (bestL_c 145 _ e145 100 e100 lessL_c _ _ (SvG W.heap.size (W.heap.size + 1) (W.heap.size + 1 + 1) s) (SvG.lt ((hi.keep hb).keep hb3) (by simp; omega) (by simp) (by simp)) (giving_sq W.heap.size (W.heap.size + 1) (W.heap.size + 1 + 1) s k coins hse (by omega) hk0 _ ((hi.keep hb).keep hb3) (((Has.new W 25 _).alloc _).alloc _) ((Has.new' (W.alloc (.cells #[.slice s.pA s.pn s.pc, .slice s.lA s.ln s.lc] 25)) 3 _ (g := W.heap.size + 1) (by simp)).alloc _) (Has.new' ((W.alloc (.cells #[.slice s.pA s.pn s.pc, .slice s.lA s.ln s.lc] 25)).alloc (.cells #[.int .i64 k] 3)) 3 _ (g := W.heap.size + 1 + 1) (by simp)))).mono ?_
          rintro e w' ⟨ys, h1, h2, h3, h4⟩
          exact ⟨ys, h1, h2, h3, nextB hb3 h4⟩)
        clear hi c1 hse HE HE2
        obtain ⟨pA, lA, pn, pc, ln, lc, ps, ls⟩ := s
        simp only [Sv.val] at *
        generalize tripsL ps ls k coins = L at *
        have F0 := Lib.hid (Has.new w 25 #[.slice pA pn pc, .slice lA ln lc])
        have B0 := Lib.hid (newB (Below.refl w.heap.size w) (.cells #[.slice pA pn pc, .slice lA ln lc] 25))
        go_enter Tryz.func43, Tryz.ntmps43
        go_wp2_with (first
          | (refine wpList_load_row rfl 25 _ rfl w.heap.size rfl 25 _ (0, 0) _ F0.out Tryz.underlying25 rfl (by kernel_rfl) ?_)
          | (refine wpList_load_row rfl 25 _ rfl w.heap.size rfl 25 _ (0, 0) _ F1.out Tryz.underlying25 rfl (by kernel_rfl) ?_)
          | (go_at_call 94; refine (HSh.out _ B0.out).mono ?_; rintro e w1 ⟨rfl, hb1⟩; have HB1 := Lib.hid (nextB B0.out hb1); have F1 := Lib.hid (F0.out.after hb1); clear hb1)
          | (go_at_call 99; refine (giving_c _ _ _ _ _).mono ?_; rintro e w2 ⟨rfl, rfl⟩)
          | (go_at_call 98; refine (HB.out _ HB1.out).mono ?_; rintro e w3 ⟨ys, hS, rfl, hx, hb3⟩; have HS := Lib.hid (best_map hS.1 hS.2); have HX := Lib.hid hx; have HB3 := Lib.hid (nextB HB1.out hb3); clear hS hx hb3; generalize bestL ltN ys = o at *; cases o))
        · have he : bestL ltLen L = none := HS.out.symm
          rw [he]
          exact bodyPost_ret (results_tmp2 rfl _ _ _) rfl ⟨_, rfl, Own.nil _ _ _, HB3.out⟩
        · rename_i x
          have he : bestL ltLen L = some x.xs := HS.out.symm
          rw [he]
          exact bodyPost_ret (results_tmp2 rfl _ _ _) rfl ⟨_, rfl, (HX.out x rfl).1, HB3.out⟩
end Go.Proofs
