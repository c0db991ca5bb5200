/-
  Contracts of Depth and Minutes, and of the specification's Soundings, Clock, Depth and Minutes, hold at every list of moderate length and at every clock.
-/
import Derived.Test.YtahochgbkhpefaaGreatDoorP6
import Derived.Test.YtahochgbkhpefaaGreatDoorP7
import Derived.Defers
import Derived.Recover
import Derived.Test.YtahochgbkhpefaaGreatDoorP12
import Derived.Test.YtahochgbkhpefaaGreatDoorP10
namespace Go.Proofs
open Go.RowKit
section
variable {P : Program} {ops : Array Oper}

theorem free_anyD {m : Nat} (D : List Nat) (hF : freeB ops m none = true) (hT : tailB ops m = true) {Q : Exit → Act → World → Prop} {a : Act} {w0 : World} (sp : Nat → Spec) (hst : ∀ i, i < m → (sp i).stable)
    (hN : ∀ i o, i < m → ops[i]? = some o → ∀ vs w, (∀ j x, (sp j).fix = some x → vs j = x) → Below w0.heap.size w0 w → (∀ j, j < i → waits o j = true → (sp j).holds (vs j) w) → MkS P ops (sp i) o (canon ops vs (fun j => decide (j < i)) a m) w)
    (hD : ∀ i ∈ D, i < m ∧ ∃ o t z, ops[i]? = some o ∧ Makes P o t z ∧ sp i = .r (NewR w0 t z))
    (hK : ∀ vs w, (∀ j x, (sp j).fix = some x → vs j = x) → Below w0.heap.size w0 w → (∀ j, j < m → (sp j).holds (vs j) w) → (∀ i ∈ D, ∀ j ∈ D, i ≠ j → vs i ≠ vs j) → wpList P ops Q (ops.toList.drop m) (canon ops vs (fun _ => true) a m) w) (hms : m ≤ ops.size) :
    ∀ (f : Nat) (listed : Array Bool) (vs : Nat → Value) (w : World), HeadInv .any ops m listed → (List.range m).countP (fun j => !selOf listed j) + (ops.size - m) ≤ f → (∀ j x, (sp j).fix = some x → vs j = x) →
      Below w0.heap.size w0 w → (∀ j, j < m → selOf listed j = true → (sp j).holds (vs j) w) → (∀ i ∈ D, ∀ j ∈ D, i ≠ j → selOf listed i = true → selOf listed j = true → vs i ≠ vs j) → wpAny P .any ops Q f listed (canon ops vs (selOf listed) a m) w := by
  intro f
  induction f with
  | zero =>
    intro listed vs w inv hf hfx hB hq hdd
    have hall : ∀ j, j < m → selOf listed j = true := fun j hj => by
      have h0 : (List.range m).countP (fun j => !selOf listed j) = 0 := by omega
      have := List.countP_eq_zero.1 h0 j (List.mem_range.2 hj)
      simpa using this
    rw [canon_congr (vs' := vs) (sel' := fun _ => true) m (fun j hj => ⟨hall j hj, fun _ => rfl⟩)]
    exact tail_any hF hT 0 m listed _ w (Nat.le_refl _) hms (by omega) ⟨inv.size, hall, inv.tail⟩ (hK vs w hfx hB (fun j hj => hq j hj (hall j hj)) (fun i hi j hj hne => hdd i hi j hj hne (hall i (hD i hi).1) (hall j (hD j hj).1)))
  | succ f ih =>
    intro listed vs w inv hf hfx hB hq hdd
    by_cases hall : ∀ j, j < m → selOf listed j = true
    · rw [canon_congr (vs' := vs) (sel' := fun _ => true) m (fun j hj => ⟨hall j hj, fun _ => rfl⟩)]
      exact tail_any hF hT (f + 1) m listed _ w (Nat.le_refl _) hms (by omega) ⟨inv.size, hall, inv.tail⟩ (hK vs w hfx hB (fun j hj => hq j hj (hall j hj)) (fun i hi j hj hne => hdd i hi j hj hne (hall i (hD i hi).1) (hall j (hD j hj).1)))
    · have hex : ∃ j, j < m ∧ selOf listed j = false ∧ ∀ k, k < j → selOf listed k = true := by
        have h1 : ∃ j, j < m ∧ selOf listed j = false := by
          refine Classical.byContradiction fun hno => hall fun j hj => ?_
          cases hs : selOf listed j with
          | true => rfl
          | false => exact absurd ⟨j, hj, hs⟩ hno
        obtain ⟨j, hj⟩ := h1
        induction j using Nat.strongRecOn with
        | _ j ihj =>
          by_cases hk : ∀ k, k < j → selOf listed k = true
          · exact ⟨j, hj.1, hj.2, hk⟩
          · have : ∃ k, k < j ∧ selOf listed k = false := by
              refine Classical.byContradiction fun hno => hk fun k hk' => ?_
              cases hs : selOf listed k with
              | true => rfl
              | false => exact absurd ⟨k, hk', hs⟩ hno
            obtain ⟨k, hk1, hk2⟩ := this
            exact ihj k hk1 ⟨by omega, hk2⟩
      obtain ⟨j, hjm, hju, hjb⟩ := hex
      obtain ⟨oj, hoj⟩ : ∃ oj, ops[j]? = some oj := ⟨_, Array.getElem?_eq_getElem (by omega)⟩
      have hjr : j ∈ Region.ready .any ops listed := mem_ready.2 ⟨hju, oj, hoj, fun e he hb => by
        have h1 := (freeB_spec hF hoj).back e he hb
        have h2 := hjb e.on h1
        have h3 : e.on < listed.size := by rw [inv.size]; omega
        unfold selOf at h2
        simp [h3] at h2 ⊢; exact h2⟩
      refine ⟨fun h0 => absurd hjr (by rw [h0]; exact List.not_mem_nil), fun i hi => ?_⟩
      obtain ⟨hu, o, ho, hafter⟩ := mem_ready.1 hi
      have hisz : i < ops.size := (Array.getElem?_eq_some_iff.1 ho).1
      have him : i < m := by
        unfold tailB at hT
        simp only [Bool.or_eq_true, decide_eq_true_eq, Bool.and_eq_true] at hT
        rcases hT with hT | ⟨⟨hlt, hs⟩, hc⟩
        · omega
        · exact Nat.lt_of_not_le fun hge => tail_waits hs hc hlt inv _ j rfl hjm hju i hge hi
      have hF' := freeB_spec hF ho
      have hdst : dstOf ops i = o.dst := by simp [dstOf, ho]
      have hdis : ∀ k, k < m → k ≠ i → ∀ d, dstOf ops k = some d → dstOf ops i ≠ some d := fun k hk hne d hd => by
        rw [hdst]; exact (hF'.apart him k hk hne d hd).1
      have hsel' : selOf (listed.setIfInBounds i true) = fun k => selOf listed k || k == i := by
        funext k
        unfold selOf
        by_cases hki : k = i
        · subst hki
          have : k < listed.size := by rw [inv.size]; exact hisz
          simp [this]
        · rw [getD_set_ne true (Ne.symm hki)]
          simp [hki]
      have hcount : (List.range m).countP (fun k => !selOf (listed.setIfInBounds i true) k) < (List.range m).countP (fun k => !selOf listed k) := by
        refine countP_lt (x := i) (List.mem_range.2 him) (fun y hy => ?_) (by simp [selOf, hu]) (by rw [hsel']; simp)
        rw [hsel'] at hy
        simp at hy
        simp [hy.1]
      have hsz : ∀ vs' sel', (canon ops vs' sel' a m).tmps.size = a.tmps.size := fun vs' sel' => (canon_size m).1
      have hev := looks_eval (vs := vs) (vs' := vs) (a := a) hF ho him inv hms hi (fun k _ => rfl)
      have hsame : (fun j => decide (j < i) && (none : Option Nat) != some j) = fun j => decide (j < i) := by funext j; simp
      rw [hsame] at hev
      obtain ⟨he, hw⟩ := getLooks (ops := ops) (o := o) hF'.sel (by rw [hsz, hsz]) hev
      have hM0 : MkS P ops (sp i) o (canon ops vs (fun j => decide (j < i)) a m) w := hN i o him ho vs w hfx hB (fun j hj hwt => by
        obtain ⟨e, he', hb', hon⟩ := waits_spec hwt
        have h5 := hafter e he' hb'
        rw [hon] at h5
        have hjs : j < listed.size := by rw [inv.size]; omega
        refine hq j (by omega) ?_
        unfold selOf
        simp [hjs] at h5 ⊢; exact h5)
      have hM : MkS P ops (.r fun v w' => (sp i).holds v w' ∧ (i ∈ D → v = .pointer (some ⟨w.heap.size, 0, none⟩))) o (canon ops vs (fun j => decide (j < i)) a m) w := by
        by_cases hiD : i ∈ D
        · obtain ⟨_, o', t, z, ho', hA, hs⟩ := hD i hiD
          have : o' = o := Option.some.inj (ho'.symm.trans ho)
          subst this
          rw [hs]
          refine .inl ⟨by simp [Region.wanted, hA.guard], ?_⟩
          unfold Oper.wp
          rw [hA.run]
          exact ⟨_, rfl, ⟨⟨_, rfl, hB.size, Has.new w t z⟩, fun _ => rfl⟩, newB (Below.refl _ _) _⟩
        · rcases hM0 with ⟨h1, h2⟩ | ⟨h1, h2⟩
          · exact .inl ⟨h1, Oper.wp_mono (fun a' w' ⟨v, q1, q2, q3⟩ => ⟨v, q1, ⟨q2, fun hh => absurd hh hiD⟩, q3⟩) h2⟩
          · exact .inr ⟨h1, h2, fun hh => absurd hh hiD⟩
      refine hM.wpOp ho (by rw [hsz, hsz]) he hw (fun v w' ⟨hv, hvD⟩ hb => ?_)
      have e1 : canon ops vs (selOf listed) a m = canon ops (fun k => if k = i then v else vs k) (selOf listed) a m :=
        canon_congr m (fun k hk => ⟨rfl, fun hs => by
          have : k ≠ i := fun h' => by subst h'; unfold selOf at hs; rw [hu] at hs; cases hs
          simp [this]⟩)
      have e2 : (canon ops vs (selOf listed) a m).put o.dst v = canon ops (fun k => if k = i then v else vs k) (selOf (listed.setIfInBounds i true)) a m := by
        rw [hsel', canon_put hu m him hdis, e1, hdst]
        simp
      rw [e2]
      refine ih _ _ w' (inv.set hi him) (by omega) (fun k x hk => ?_) (hB.trans (hb.mono hB.size)) (fun k hk hs => ?_) (fun k1 h1 k2 h2 hne s1 s2 => ?_)
      · by_cases hki : k = i
        · subst hki; simp only [if_true]; exact Spec.holds_fix hk hv
        · simp only [if_neg hki]; exact hfx k x hk
      · by_cases hki : k = i
        · subst hki; simp only [if_true]; exact hv
        · simp only [if_neg hki]
          have hk2 : selOf listed k = true := by
            rw [hsel'] at hs
            simpa [hki] using hs
          exact Spec.keep (hst k hk) (hq k hk hk2) hb
      · have old : ∀ k, k ∈ D → k ≠ i → selOf (listed.setIfInBounds i true) k = true → selOf listed k = true ∧ vs k ≠ .pointer (some ⟨w.heap.size, 0, none⟩) := fun k hk hki hs => by
          have hk2 : selOf listed k = true := by
            rw [hsel'] at hs
            simpa [hki] using hs
          refine ⟨hk2, fun he' => ?_⟩
          obtain ⟨hkm, o', t, z, _, _, hs'⟩ := hD k hk
          have := hq k hkm hk2
          rw [hs'] at this
          obtain ⟨B, e1, _, e3⟩ := this
          rw [he'] at e1
          simp only [Value.pointer.injEq, Option.some.injEq, Addr.mk.injEq, and_true] at e1
          have := e3.lt
          omega
        by_cases k1i : k1 = i
        · have k2i : k2 ≠ i := fun h => hne (k1i.trans h.symm)
          have := old k2 h2 k2i s2
          simp only [if_pos k1i, if_neg k2i]
          rw [hvD (k1i ▸ h1)]
          exact fun h => this.2 h.symm
        · have q1 := old k1 h1 k1i s1
          simp only [if_neg k1i]
          by_cases k2i : k2 = i
          · simp only [if_pos k2i]
            rw [hvD (k2i ▸ h2)]
            exact q1.2
          · simp only [if_neg k2i]
            exact hdd k1 h1 k2 h2 hne q1.1 (old k2 h2 k2i s2).1
end
section
variable {P : Program} {l : List Oper} {Q : Exit → Act → World → Prop} {a : Act} {w : World}

theorem any_loose2 {m : Nat} (S : List Spec) (i1 i2 d1 d2 : Nat) (hne : i1 ≠ i2) {o1 o2 : Oper} {t1 t2 : TypeId} {z1 z2 : Array Value} (h1 : l[i1]? = some o1) (h2 : l[i2]? = some o2) (hA1 : Makes P o1 t1 z1) (hA2 : Makes P o2 t2 z2) (hd1 : o1.dst = some d1) (hd2 : o2.dst = some d2) (hS1 : S[i1]? = some (.r (NewR w t1 z1))) (hS2 : S[i2]? = some (.r (NewR w t2 z2))) (hz1 : d1 < a.tmps.size) (hz2 : d2 < a.tmps.size) (hF : freeB l.toArray m none = true) (hT : tailB l.toArray m = true) (hms : m ≤ l.length) (hSm : S.length = m)
    (h : OblS P l.toArray w 0 S (l.take m) a [] (fun a' H => ∀ w', Below w.heap.size w w' → (∀ p ∈ H, p.2 w') → a'.tmps[d1]? ≠ a'.tmps[d2]? → wpList P l.toArray Q (l.drop m) a' w')) :
    wpAny P .any l.toArray Q l.toArray.size (Array.replicate l.toArray.size false) a { w with drawn := w.drawn + 1 } := by
  obtain ⟨sp, hsp⟩ : ∃ sp : Nat → Spec, sp = fun j => S.getD j (.v undef) := ⟨_, rfl⟩
  obtain ⟨vs0, hvs0⟩ : ∃ vs0 : Nat → Value, vs0 = fun j => ((sp j).fix).getD undef := ⟨_, rfl⟩
  have hfx0 : ∀ j x, (sp j).fix = some x → vs0 j = x := fun j x hj => by rw [hvs0]; simp only [hj, Option.getD_some]
  have key := fun (vs : Nat → Value) (hfx : ∀ j x, (sp j).fix = some x → vs j = x) => OblS.all (P := P) (ops := l.toArray) (a0 := a) sp vs hfx S (l.take m) 0 [] (fun j s hj => by rw [hsp]; simp [hj])
    (fun j o hj => by
      have hjm : j < m := by have := (List.getElem?_eq_some_iff.1 hj).1; simp at this; omega
      simp only [List.getElem?_take, hjm, if_true] at hj
      simpa using hj) (fun p hp => absurd hp List.not_mem_nil) h
  have hlen : (l.take m).length = m := by simp; omega
  have hcut := fun (vs : Nat → Value) i (hi : i ≤ m) => canon_cut (ops := l.toArray) (vs := vs) (s := fun _ => true) (a := a) m hi
  have e0 : a = canon l.toArray vs0 (selOf (Array.replicate l.toArray.size false)) a m := by
    have e1 : canon l.toArray vs0 (selOf (Array.replicate l.toArray.size false)) a m = canon l.toArray vs0 (fun j => decide (j < 0) && true) a m :=
      canon_congr m (fun j hj => ⟨by simp [selOf, show j < l.length by omega], fun _ => rfl⟩)
    rw [e1, hcut vs0 0 (by omega)]; rfl
  have hm1 : i1 < m := by rw [← hSm]; exact (List.getElem?_eq_some_iff.1 hS1).1
  have hm2 : i2 < m := by rw [← hSm]; exact (List.getElem?_eq_some_iff.1 hS2).1
  have := free_anyD (P := P) (ops := l.toArray) (m := m) [i1, i2] hF hT (Q := Q) (a := a) (w0 := w) sp
    (fun i hi => by
      have ho : ∃ o, l.toArray[i]? = some o := ⟨_, Array.getElem?_eq_getElem (by simp; omega)⟩
      obtain ⟨o, ho⟩ := ho
      exact ((key vs0 hfx0).1 i o (by omega) (by rw [hlen]; omega) ho).1)
    (fun i o hi ho vs w' hfx hB hw => by
      have := ((key vs hfx).1 i o (by omega) (by rw [hlen]; omega) ho).2 w' hB hw
      rw [← hcut vs i (by omega)] at this
      simpa using this)
    (fun i hi => by
      rcases List.mem_cons.1 hi with rfl | hi
      · exact ⟨hm1, o1, t1, z1, by simpa using h1, hA1, by rw [hsp]; simp [hS1]⟩
      · obtain rfl : i = i2 := by simpa using hi
        exact ⟨hm2, o2, t2, z2, by simpa using h2, hA2, by rw [hsp]; simp [hS2]⟩)
    (fun vs w' hfx hB hw hdd => by
      obtain ⟨H', k2, k3⟩ := (key vs hfx).2.2
      rw [hlen, Nat.zero_add] at k3
      simpa using k3 w' hB (fun p hp => by
        obtain ⟨j, R, rfl, e2, e3⟩ := k2 p hp
        have := hw j (by rw [hlen] at e2; omega)
        rw [e3] at this; exact this) (by
        have look : ∀ i o d, i < m → l[i]? = some o → o.dst = some d → d < a.tmps.size → (canon l.toArray vs (fun _ => true) a m).tmps[d]? = some (vs i) := fun i o d hi ho hd hz => by
          have ho' : l.toArray[i]? = some o := by simpa using ho
          have hdst : dstOf l.toArray i = o.dst := by simp [dstOf, ho]
          have hdis : ∀ k, k < m → k ≠ i → ∀ d, dstOf l.toArray k = some d → dstOf l.toArray i ≠ some d := fun k hk hne d hd => by
            rw [hdst]; exact ((freeB_spec hF ho').apart hi k hk hne d hd).1
          have e1 := canon_put (ops := l.toArray) (vs := vs) (sel := fun k => some i != some k) (a := a) (i := i) (by simp) m hi hdis
          have e2 : (fun j => (some i != some j) || j == i) = fun _ => true := by
            funext j
            by_cases hj : j = i
            · simp [hj]
            · simp [hj, Ne.symm hj]
          rw [e2] at e1
          rw [e1, hdst, hd]
          have hzz := (canon_size (ops := l.toArray) (vs := vs) (sel := fun k => some i != some k) (a := a) m).1
          simp [Act.put, hzz, hz]
        rw [look i1 o1 d1 hm1 h1 hd1 hz1, look i2 o2 d2 hm2 h2 hd2 hz2]
        intro he
        exact hdd i1 (by simp) i2 (by simp) hne (Option.some.inj he))) (by simpa using hms)
    l.toArray.size (Array.replicate l.toArray.size false) vs0 { w with drawn := w.drawn + 1 } (head0 m)
    (by have := count_le (p := fun j => !selOf (Array.replicate l.toArray.size false) j) m; simp only [List.size_toArray] at *; omega) hfx0 (Below.refl _ w).drew
    (fun j hj hs => by simp [selOf, show j < l.length by omega] at hs) (fun i hi j hj _ hs => by
      have him : i < m := by
        rcases List.mem_cons.1 hi with rfl | hi
        · exact hm1
        · obtain rfl : i = i2 := by simpa using hi
          exact hm2
      simp [selOf, show i < l.length by omega] at hs)
  rw [← e0] at this
  exact this

/-- As wp_loose, where two of the operations each make a block: the blocks are two. -/
theorem wp_loose2 {id : Nat} (m : Nat) (S : List Spec) (i1 i2 d1 d2 : Nat) (hne : i1 ≠ i2) {o1 o2 : Oper} {t1 t2 : TypeId} {z1 z2 : Array Value} (h1 : l[i1]? = some o1) (h2 : l[i2]? = some o2) (hA1 : Makes P o1 t1 z1) (hA2 : Makes P o2 t2 z2) (hd1 : o1.dst = some d1) (hd2 : o2.dst = some d2)
    (hS1 : S[i1]? = some (.r (NewR w t1 z1))) (hS2 : S[i2]? = some (.r (NewR w t2 z2))) (hz1 : d1 < a.tmps.size) (hz2 : d2 < a.tmps.size) (hm : P.follows .mixedOrders = true) (hF : freeB l.toArray m none = true) (hT : tailB l.toArray m = true) (hms : m ≤ l.length) (hSm : S.length = m)
    (h : ∀ K : Act → Hyps → Prop, (∀ a' H, (∀ w', Below w.heap.size w w' → (∀ p ∈ H, p.2 w') → a'.tmps[d1]? ≠ a'.tmps[d2]? → wpList P l.toArray Q (l.drop m) a' w') → K a' H) → OblS P l.toArray w 0 S (l.take m) a [] K) : (Code.region id l.toArray true).wp P Q a w :=
  wp_region_any hm (any_loose2 S i1 i2 d1 d2 hne h1 h2 hA1 hA2 hd1 hd2 hS1 hS2 hz1 hz2 hF hT hms hSm (h _ fun _ _ h => h))
end
end Go.Proofs
namespace Go.Proofs
open Go.RowKit Go.Shelf Gas
attribute [local go_sem ↓] Go.wp_at_zero Go.wp_at_succ

set_option maxHeartbeats 1000000 in
theorem narrow_p (l h : Int) (A : Option Addr) (n c : Nat) (xs : List Pr) (hn : n ≤ 1000000) (hok : (narF l h xs).2 < (narF l h xs).1) (w : World) (hs : SlOf prC 2 w A n xs) :
    Calls Tryz.prog 117 #[.agg #[.int .i64 l, .int .i64 h], .slice A n c] w fun e w' => e = .panicked [{ v := .iface 191 (.agg #[]), recovered := false }] ∧ Below w.heap.size w w' := by
  have HS := Lib.hid hs; have HN := Lib.hid hs.1; have HOK := Lib.hid hok
  clear hs hok
  have F := Lib.hid ((Has.new w 24 #[.int .i64 l, .int .i64 h]).alloc (.cells #[.int .i64 0, .int .i64 0] 24))
  have Z := Lib.hid (Has.new' (w.alloc (.cells #[.int .i64 l, .int .i64 h] 24)) 24 #[.int .i64 0, .int .i64 0] (g := w.heap.size + 1) (by simp))
  have B := Lib.hid (newB (newB (Below.refl w.heap.size w) (.cells #[.int .i64 l, .int .i64 h] 24)) (.cells #[.int .i64 0, .int .i64 0] 24))
  have H0 := Lib.hid (show (#[.int .i64 l, .int .i64 h] : Array Value) = #[.int .i64 (narF l h (xs.take 0)).1, .int .i64 (narF l h (xs.take 0)).2] from rfl)
  go_enter Tryz.func117, Tryz.ntmps117
  go_wp2
  go_loopw [9] (fun v wr => ∃ k : Nat, k ≤ n ∧ v = .int .i64 k ∧ Below w.heap.size w wr ∧ Has wr w.heap.size 24 #[.int .i64 (narF l h (xs.take k)).1, .int .i64 (narF l h (xs.take k)).2] ∧ Has wr (w.heap.size + 1) 24 #[.int .i64 0, .int .i64 0]) (fun v _ => n - (intOf v).toNat)
  case atStart => exact ⟨0, by omega, rfl, B.out, F.out.eq H0.out, Z.out⟩
  case round =>
    obtain ⟨k, hk, rfl, hB, hF, hZ⟩ := hrel
    have HB := Lib.hid hB; have HF := Lib.hid hF; have HZ := Lib.hid hZ
    have hc := hF.cell; have hf := hF.frozen; have hz := hZ.lt
    clear hB hF hZ
    by_cases hkn : k < n
    · have hkl : k < xs.length := by rw [HN.out]; exact hkn
      obtain ⟨b, o, he⟩ := HS.out.addr (by omega)
      have hx := List.getElem?_eq_getElem hkl
      have HT := Lib.hid (List.take_append_getElem hkl)
      obtain ⟨x, hxx⟩ : ∃ x, x = xs[k] := ⟨_, rfl⟩
      rw [← hxx] at hx HT
      subst he
      have hR := Lib.hid ((HS.out.keep HB.out).range prC_len hx)
      clear hx hxx
      obtain ⟨x0, x1⟩ := x
      replace hR := Lib.hid (show wr.rangeAt b (o + k * 2) [.int .i64 x0, .int .i64 x1] from hR.out)
      have HSn := Lib.hid (show narF l h (xs.take (k + 1)) = (max (narF l h (xs.take k)).1 x0, min (narF l h (xs.take k)).2 x1) by rw [← HT.out]; exact narF_snoc _ _ _ _)
      generalize (narF l h (xs.take k)).1 = a at *
      generalize (narF l h (xs.take k)).2 = bb at *
      go_wp2_with (refine wpList_load_mid rfl 24 _ rfl b (o + k * 2) rfl _ _ hR.out Tryz.underlying24 rfl (by kernel_rfl) ?_)
      have HB2 := Lib.hid (newB HB.out (.cells #[.int .i64 x0, .int .i64 x1] 24))
      have HF2 := Lib.hid (HF.out.alloc (.cells #[.int .i64 x0, .int .i64 x1] 24)); have HZ2 := Lib.hid (HZ.out.alloc (.cells #[.int .i64 x0, .int .i64 x1] 24))
      have N2 := Lib.hid (Has.new wr 24 #[.int .i64 x0, .int .i64 x1])
      generalize wr.alloc (.cells #[.int .i64 x0, .int .i64 x1] 24) = W at *
      clear hc hf
      have HC := Lib.hid fun (w' : World) (hb : Below W.heap.size W w') => (⟨(HF2.out.after hb).cell 0, (HF2.out.after hb).cell 1, (N2.out.after hb).cell 0, (N2.out.after hb).cell 1⟩ : w'.cell? ⟨w.heap.size, 0, none⟩ = some (.int .i64 a) ∧ w'.cell? ⟨w.heap.size, 1, none⟩ = some (.int .i64 bb) ∧ w'.cell? ⟨wr.heap.size, 0, none⟩ = some (.int .i64 x0) ∧ w'.cell? ⟨wr.heap.size, 1, none⟩ = some (.int .i64 x1))
      have hc := HF2.out.cell; have hf := HF2.out.frozen; have hn := N2.out.cell
      have hne1 : ¬ w.heap.size = wr.heap.size := by omega
      have hne2 : ¬ wr.heap.size = w.heap.size := by omega
      go_region
      clear hc hf hn
      go_wp2
      all_goals
        go_roundw
        case rel => exact ⟨k + 1, by omega, by go_num, (setB (setB HB2.out (by show w.heap.size ≤ w.heap.size; omega) _) (by show w.heap.size ≤ w.heap.size; omega) _).drew, (((HF2.out.set 0 _).set 1 _).drew).eq (by rw [HSn.out]; first | (simp; done) | (simp; constructor <;> (split <;> omega)) | (simp; omega)), ((HZ2.out.far (by show w.heap.size + 1 ≠ w.heap.size; omega) _).far (by show w.heap.size + 1 ≠ w.heap.size; omega) _).drew⟩
        case measure => simp [intOf]; omega
    · have hke : k = n := by omega
      subst hke
      have ht : xs.take k = xs := List.take_of_length_le (by rw [HN.out]; exact Nat.le_refl _)
      rw [ht] at HF hc
      have hle := HOK.out
      clear ht
      have hgt : (narF l h xs).2 < (narF l h xs).1 := hle
      go_wp2
      exact ⟨rfl, rfl, HB.out⟩
set_option maxHeartbeats 1000000 in
theorem left1_p (x0 x1 : Int) (b o n c : Nat) (ys : List Pr) (hn : n ≤ 1000000) (hn2 : 1 ≤ n) (hc : n ≤ c) (hok : (narF x0 x1 ys).2 < (narF x0 x1 ys).1) (tb rb : Nat) (w : World) (hs : SlOf prC 2 w (some ⟨b, o, none⟩) n ((x0, x1) :: ys)) (ht : Has w tb 51 #[.slice (some ⟨b, o, none⟩) n c]) (hr : Has w rb 24 #[.int .i64 0, .int .i64 0]) :
    Calls Tryz.prog 116 #[.pointer (some ⟨tb, 0, none⟩), .pointer (some ⟨rb, 0, none⟩)] w fun e w' => e = .panicked [{ v := .iface 191 (.agg #[]), recovered := false }] ∧ Below w.heap.size w w' := by
  have CA := Lib.hid fun (w' : World) (hb : Below w.heap.size w w') => (show w'.cell? ⟨b, o, none⟩ = some (.int .i64 x0) ∧ w'.cell? ⟨b, o + 1, none⟩ = some (.int .i64 x1) from ⟨by simpa using ((hs.keep hb).range prC_len (k := 0) rfl) 0 _ rfl, by simpa using ((hs.keep hb).range prC_len (k := 0) rfl) 1 _ rfl⟩)
  have HT := Lib.hid ht; have HR := Lib.hid hr
  have HN := Lib.hid fun (w' : World) (hb : Below w.heap.size w w') => narrow_p x0 x1 (if c = 1 then some ⟨b, o, none⟩ else some ⟨b, o + 2, none⟩) (n - 1) (c - 1) ys (by omega) hok w' (by
    by_cases hc1 : c = 1
    · rw [if_pos hc1]
      have hl : ys.length + 1 = n := hs.1
      have hy : ys = [] := List.eq_nil_of_length_eq_zero (by omega)
      subst hy
      have hn1 : n - 1 = 0 := by omega
      rw [hn1]
      exact ⟨rfl, by simp [flat], fun h => absurd h (by omega)⟩
    · rw [if_neg hc1]; exact (hs.keep hb).tl)
  clear hs ht hr
  have i0 : 0 < n := by omega
  have i1 : (0 : Int) < n := by omega
  have i2 : (1 : Int) ≤ n := by omega
  have i3 : (n : Int) ≤ c := by omega
  go_enter Tryz.func116, Tryz.ntmps116
  go_wp2
  refine wp_free 5 (by kernel_rfl) (by kernel_rfl) (by kernel_rfl) (by decide) ?_
  intro K hK
  repeat (apply Obl.val (by decide) rfl; (intro w' hb; obtain ⟨p1, p2⟩ := CA.out w' hb; have := (HT.out.after hb).cell; go_simp; rfl))
  apply Obl.nil
  apply hK
  intro w2 hb
  simp only [Act.put, List.setIfInBounds_toArray, List.set_cons_zero, List.set_cons_succ, List.drop_succ_cons, List.drop_zero]
  clear hK K
  have HB := Lib.hid hb; have HR2 := Lib.hid (HR.out.after hb)
  clear hb
  go_wp2_with (go_at_call 117; refine (HN.out _ HB.out).mono ?_; rintro e w3 ⟨rfl, hb3⟩; have HB3 := Lib.hid (nextB HB.out hb3); clear hb3)
  all_goals exact ⟨rfl, rfl, HB3.out⟩

set_option maxRecDepth 50000 in
/-- Where something panicked with 'nothing', attempt's deferred closure recovers, and lays the error of a rule. -/
theorem catch_c (g : Nat) (x : Int) (older : List PanicEntry) (w : World) (h : Has w g 28 #[.int .i64 x]) :
    CallsD Tryz.prog 136 #[.pointer (some ⟨g, 0, none⟩)] (.panicking ({ v := .iface 191 (.agg #[]), recovered := false } :: older)) w fun e u' w' =>
      (∃ v, e = .returned v) ∧ u' = .panicking ({ v := .iface 191 (.agg #[]), recovered := true } :: older) ∧ w' = (w.alloc (.cells #[] 191)).setCell ⟨g, 0, none⟩ (.int .i64 7) := by
  refine callsD_of_wpS Tryz.func136 rfl fun c₀ cs hu => ?_
  apply wpS_seq
  apply wpS_region
  simp [wpOpsS, go_sem, recoverD, hu, Tryz.ntmps136, Exit.thenS]
  refine wpS_of_wp ?_
  simp only [Array.replicate_succ, Array.replicate_zero, List.push_toArray, List.append_toArray, List.nil_append, List.cons_append, List.setIfInBounds_toArray, List.set_cons_zero, List.set_cons_succ]
  have hta : ∀ w : World, (Instr.typeAssert (.iface 191 (.agg #[])) 20 191 true).run Tryz.prog w = .ok (.tuple #[.agg #[], .bool true]) w := fun w => by
    simp [Instr.typeAssert, go_sem]
  have hc := (h.alloc (.cells #[] 191)).cell
  have hf := (h.alloc (.cells #[] 191)).frozen
  go_wp2
  cases c₀
  simp_all [bodyPostS, results, Tryz.results136]

theorem attempt_p (gc : FuncId) (cap : Array Value) (eg : ∀ args w, (callFunc gc args).run Tryz.prog w = .ok (.enter gc args) w) (w : World) (Rr : World → Prop)
    (hf : Calls Tryz.prog gc cap (w.alloc (.cells #[.int .i64 0] 28)) fun e w' => e = .panicked [{ v := .iface 191 (.agg #[]), recovered := false }] ∧ Rr w' ∧ Has w' w.heap.size 28 #[.int .i64 0]) :
    Calls Tryz.prog 115 #[.func (.func gc) #[] cap] w fun e w' => e = .returned (.int .i64 7) ∧ ∃ w1, Rr w1 ∧ Has w1 w.heap.size 28 #[.int .i64 0] ∧ w' = (w1.alloc (.cells #[] 191)).setCell ⟨w.heap.size, 0, none⟩ (.int .i64 7) := by
  have HF := Lib.hid hf
  clear hf
  have hmf : ∀ (fn : Fn) (first cap : Array Value) (w : World), (Instr.makeFunc fn first cap).run Tryz.prog w = .ok (.func fn first cap) w := fun _ _ _ _ => rfl
  go_enter_defers Tryz.func115, Tryz.ntmps115
  go_wp2_with (refine HF.out.mono ?_; rintro e w1 ⟨rfl, hR, hH⟩; have HR := Lib.hid hR; have HH := Lib.hid hH; have c1 := hH.cell; have f1 := hH.frozen; clear hR hH)
  refine leaves_cons (f := 136) (args := #[.pointer (some ⟨w.heap.size, 0, none⟩)]) (by simp) (by simp [go_sem]) ?_
  refine (catch_c w.heap.size 0 [] w1 HH.out).mono ?_
  rintro e u' w'' ⟨⟨v', rfl⟩, rfl, rfl⟩
  have hq := ((HH.out.alloc (.cells #[] 191)).set 0 (.int .i64 7)).cell 0
  have hq' : ((w1.alloc (.cells #[] 191)).setCell ⟨w.heap.size, 0, none⟩ (.int .i64 7)).cell? ⟨w.heap.size, 0, none⟩ = some (.int .i64 7) := hq
  exact ⟨.int .i64 7, by simp [results, Tryz.results115, go_sem, hq'], rfl, w1, HR.out, HH.out, rfl⟩

set_option maxHeartbeats 1000000 in
theorem left_p (x0 x1 : Int) (b o n c : Nat) (ys : List Pr) (hn : n ≤ 1000000) (hn2 : 1 ≤ n) (hc : n ≤ c) (hok : (narF x0 x1 ys).2 < (narF x0 x1 ys).1) (w : World) (hs : SlOf prC 2 w (some ⟨b, o, none⟩) n ((x0, x1) :: ys)) :
    Calls Tryz.prog 70 #[.slice (some ⟨b, o, none⟩) n c] w fun e w' => e = .returned (.tuple #[.agg #[.int .i64 0, .int .i64 0], .int .i64 7]) ∧ Below w.heap.size w w' := by
  have B3 := Lib.hid (newB (newB (newB (Below.refl w.heap.size w) (.cells #[.slice (some ⟨b, o, none⟩) n c] 51)) (.cells #[.int .i64 0, .int .i64 0] 24)) (.cells #[.int .i64 0, .int .i64 0] 24))
  have T0 := Lib.hid (((Has.new w 51 #[.slice (some ⟨b, o, none⟩) n c]).alloc (.cells #[.int .i64 0, .int .i64 0] 24)).alloc (.cells #[.int .i64 0, .int .i64 0] 24))
  have Z0 := Lib.hid ((Has.new' (w.alloc (.cells #[.slice (some ⟨b, o, none⟩) n c] 51)) 24 #[.int .i64 0, .int .i64 0] (g := w.heap.size + 1) (by simp)).alloc (.cells #[.int .i64 0, .int .i64 0] 24))
  have R0 := Lib.hid (Has.new' ((w.alloc (.cells #[.slice (some ⟨b, o, none⟩) n c] 51)).alloc (.cells #[.int .i64 0, .int .i64 0] 24)) 24 #[.int .i64 0, .int .i64 0] (g := w.heap.size + 1 + 1) (by simp))
  have hsz : (((w.alloc (.cells #[.slice (some ⟨b, o, none⟩) n c] 51)).alloc (.cells #[.int .i64 0, .int .i64 0] 24)).alloc (.cells #[.int .i64 0, .int .i64 0] 24)).heap.size = w.heap.size + 1 + 1 + 1 := by simp
  have HC := Lib.hid fun (W : World) (hb : Below w.heap.size w W) (hw : W.heap.size = w.heap.size + 1 + 1 + 1) (ht : Has W w.heap.size 51 #[.slice (some ⟨b, o, none⟩) n c]) (hr : Has W (w.heap.size + 1 + 1) 24 #[.int .i64 0, .int .i64 0]) =>
    attempt_p 116 #[.pointer (some ⟨w.heap.size, 0, none⟩), .pointer (some ⟨w.heap.size + 1 + 1, 0, none⟩)] (enters_of Tryz.func116 (by kernel_rfl) rfl) W (fun w' => Below (W.alloc (.cells #[.int .i64 0] 28)).heap.size (W.alloc (.cells #[.int .i64 0] 28)) w')
      ((left1_p x0 x1 b o n c ys hn hn2 hc hok w.heap.size (w.heap.size + 1 + 1) (W.alloc (.cells #[.int .i64 0] 28)) (hs.keep (newB hb _)) (ht.alloc _) (hr.alloc _)).mono fun e w' ⟨h1, h2⟩ => ⟨h1, h2, (Has.new W 28 _).after h2⟩)
  clear hs
  go_enter Tryz.func70, Tryz.ntmps70
  go_wp2_with (first
    | (go_at_call 115; refine (HC.out _ B3.out hsz T0.out R0.out).mono ?_; rintro e w4 ⟨rfl, w1, hb1, hh1, rfl⟩; have hb2 := newB (Below.refl _ _) (.cells #[.int .i64 0] 28) |>.trans (hb1.mono (by simp)); have hb3 := setB (newB (nextB B3.out hb2) (.cells #[] 191)) (p := ⟨w.heap.size + 1 + 1 + 1, 0, none⟩) (by show w.heap.size ≤ w.heap.size + 1 + 1 + 1; omega) (.int .i64 7); have HB := Lib.hid hb3; have Z1 := Lib.hid (((Z0.out.after hb2).alloc (.cells #[] 191)).far (p := ⟨w.heap.size + 1 + 1 + 1, 0, none⟩) (by show w.heap.size + 1 ≠ w.heap.size + 1 + 1 + 1; omega) (.int .i64 7)); have R1 := Lib.hid (((R0.out.after hb2).alloc (.cells #[] 191)).far (p := ⟨w.heap.size + 1 + 1 + 1, 0, none⟩) (by show w.heap.size + 1 + 1 ≠ w.heap.size + 1 + 1 + 1; omega) (.int .i64 7)); clear hb1 hb2 hb3 hh1)
    | (refine wpList_load_row rfl 24 _ rfl (w.heap.size + 1 + 1) rfl 24 _ (0, 0) _ R1.out Tryz.underlying24 rfl (by kernel_rfl) ?_)
    | (refine wpList_store_all rfl 24 _ _ rfl (w.heap.size + 1) rfl _ rfl 24 _ Z1.out (by kernel_rfl) rfl (by simp [Value.oneCell']) ?_))
  exact bodyPost_ret (results_row_tmp Tryz.results70 _ _ (w.heap.size + 1) 24 _ (0, 0) _ rfl (Z1.out.setRow _) Tryz.underlying24 rfl (by kernel_rfl)) rfl ⟨rfl, rowB HB.out (by omega) _⟩
end Go.Proofs
namespace Go.Proofs
open Go.RowKit Go.Shelf Gas
attribute [local go_sem ↓] Go.wp_at_zero Go.wp_at_succ

/-- What spans of one number leave, or the error. -/
def leftR (x0 x1 : Int) (ys : List Pr) : Pr × Int := if (narF x0 x1 ys).1 ≤ (narF x0 x1 ys).2 then (narF x0 x1 ys, 0) else ((0, 0), 7)
theorem left_a (x0 x1 : Int) (b o n c : Nat) (ys : List Pr) (hn : n ≤ 1000000) (hn2 : 1 ≤ n) (hc : n ≤ c) (w : World) (hs : SlOf prC 2 w (some ⟨b, o, none⟩) n ((x0, x1) :: ys)) :
    Calls Tryz.prog 70 #[.slice (some ⟨b, o, none⟩) n c] w fun e w' => e = .returned (.tuple #[.agg #[.int .i64 (leftR x0 x1 ys).1.1, .int .i64 (leftR x0 x1 ys).1.2], .int .i64 (leftR x0 x1 ys).2]) ∧ Below w.heap.size w w' := by
  by_cases h : (narF x0 x1 ys).1 ≤ (narF x0 x1 ys).2
  · have := left_c x0 x1 b o n c ys hn hn2 hc h w hs
    simpa only [leftR, if_pos h] using this
  · have := left_p x0 x1 b o n c ys hn hn2 hc (by omega) w hs
    simpa only [leftR, if_neg h] using this

def clkB (d l h x y : Int) : Bool := inB d 0 20 && (ordB l h 1 60 60 && ordB x y 0 1260 1260)
def minR (d l h x y : Int) : Pr × Int := if clkB d l h x y then leftR (ranF d l h).1 (ranF d l h).2 [(x, y)] else ((0, 0), 2)

set_option maxHeartbeats 2000000 in
theorem Minutes_a (d l h x y : Int) (w : World) :
    Calls Tryz.prog 17 #[.agg #[.int .i64 d, .int .i64 l, .int .i64 h, .int .i64 x, .int .i64 y]] w fun e w' => e = .returned (.tuple #[.agg #[.int .i64 (minR d l h x y).1.1, .int .i64 (minR d l h x y).1.2], .int .i64 (minR d l h x y).2]) ∧ Below w.heap.size w w' := by
  have F := Lib.hid ((Has.new w 26 #[.int .i64 d, .int .i64 l, .int .i64 h, .int .i64 x, .int .i64 y]).alloc (.cells #[.int .i64 0, .int .i64 0] 24))
  have Z := Lib.hid (Has.new' (w.alloc (.cells #[.int .i64 d, .int .i64 l, .int .i64 h, .int .i64 x, .int .i64 y] 26)) 24 #[.int .i64 0, .int .i64 0] (g := w.heap.size + 1) (by simp))
  have B0 := Lib.hid (newB (newB (Below.refl w.heap.size w) (.cells #[.int .i64 d, .int .i64 l, .int .i64 h, .int .i64 x, .int .i64 y] 26)) (.cells #[.int .i64 0, .int .i64 0] 24))
  cases hd : inB d 0 20
  · have HE := Lib.hid (show minR d l h x y = ((0, 0), 2) by simp [minR, clkB, hd])
    have HD := Lib.hid hd
    rw [HE.out]
    clear hd HE
    go_enter Tryz.func17, Tryz.ntmps17
    go_wp2_with (first
      | (go_at_call 67; refine (within_c d 0 20 _).mono ?_; rintro e w1 ⟨rfl, rfl⟩; rw [HD.out])
      | (refine wpList_store_all rfl 24 _ _ rfl (w.heap.size + 1) rfl _ rfl 24 _ Z.out (by kernel_rfl) rfl (by simp [Value.oneCell']) ?_))
    exact bodyPost_ret (results_row_tmp Tryz.results17 _ _ (w.heap.size + 1) 24 _ (0, 0) _ rfl (Z.out.setRow _) Tryz.underlying24 rfl (by kernel_rfl)) rfl ⟨rfl, rowB B0.out (by omega) _⟩
  · have HD := Lib.hid hd
    cases hl : ordB l h 1 60 60
    · have HE := Lib.hid (show minR d l h x y = ((0, 0), 2) by simp [minR, clkB, hl])
      have HL := Lib.hid hl
      rw [HE.out]
      clear hd hl HE
      go_enter Tryz.func17, Tryz.ntmps17
      go_wp2_with (first
        | (go_at_call 67; refine (within_c d 0 20 _).mono ?_; rintro e w1 ⟨rfl, rfl⟩; rw [HD.out])
        | (go_at_call 68; refine (ordered_c _ _ _ _ _ (by omega) (by omega) _).mono ?_; rintro e w2 ⟨rfl, hb⟩; rw [HL.out]; have HB1 := Lib.hid (nextB B0.out hb); have Z1 := Lib.hid (Z.out.after hb); clear hb)
        | (refine wpList_store_all rfl 24 _ _ rfl (w.heap.size + 1) rfl _ rfl 24 _ Z1.out (by kernel_rfl) rfl (by simp [Value.oneCell']) ?_))
      exact bodyPost_ret (results_row_tmp Tryz.results17 _ _ (w.heap.size + 1) 24 _ (0, 0) _ rfl (Z1.out.setRow _) Tryz.underlying24 rfl (by kernel_rfl)) rfl ⟨rfl, rowB HB1.out (by omega) _⟩
    · have HL := Lib.hid hl
      cases hx : ordB x y 0 1260 1260
      · have HE := Lib.hid (show minR d l h x y = ((0, 0), 2) by simp [minR, clkB, hx])
        have HX := Lib.hid hx
        rw [HE.out]
        clear hd hl hx HE
        go_enter Tryz.func17, Tryz.ntmps17
        go_wp2_with (first
          | (go_at_call 67; refine (within_c d 0 20 _).mono ?_; rintro e w1 ⟨rfl, rfl⟩; rw [HD.out])
          | (go_at_call 68; refine (ordered_c _ _ _ _ _ (by omega) (by omega) _).mono ?_; rintro e w2 ⟨rfl, hb⟩; (first | (rw [HL.out]; have HB1 := Lib.hid (nextB B0.out hb); have F1 := Lib.hid (F.out.after hb); have Z1 := Lib.hid (Z.out.after hb); have c1 := F1.out.cell) | (rw [HX.out]; have HB2 := Lib.hid (nextB HB1.out hb); have Z2 := Lib.hid (Z1.out.after hb))); clear hb)
          | (refine wpList_store_all rfl 24 _ _ rfl (w.heap.size + 1) rfl _ rfl 24 _ Z2.out (by kernel_rfl) rfl (by simp [Value.oneCell']) ?_))
        exact bodyPost_ret (results_row_tmp Tryz.results17 _ _ (w.heap.size + 1) 24 _ (0, 0) _ rfl (Z2.out.setRow _) Tryz.underlying24 rfl (by kernel_rfl)) rfl ⟨rfl, rowB HB2.out (by omega) _⟩
      · have HX := Lib.hid hx
        have HE := Lib.hid (show minR d l h x y = leftR (ranF d l h).1 (ranF d l h).2 [(x, y)] by simp [minR, clkB, hd, hl, hx])
        have h1 := of_decide_eq_true hd
        have h2 := of_decide_eq_true hl
        have HR := Lib.hid fun (w' : World) => ran_c d l h x y (by omega) (by omega) (by omega) w'
        have HLe := Lib.hid fun (w' : World) (B : Nat) (hs : SlOf prC 2 w' (some ⟨B, 0, none⟩) 2 [((ranF d l h).1, (ranF d l h).2), (x, y)]) => left_a (ranF d l h).1 (ranF d l h).2 B 0 2 2 [(x, y)] (by omega) (by omega) (by omega) w' hs
        rw [HE.out]
        clear hd hl hx h1 h2 HE
        generalize leftR (ranF d l h).1 (ranF d l h).2 [(x, y)] = res at *
        generalize ranF d l h = rf at *
        obtain ⟨r1, r2⟩ := rf
        go_enter Tryz.func17, Tryz.ntmps17
        go_wp2_with (first
          | (go_at_call 67; refine (within_c d 0 20 _).mono ?_; rintro e w1 ⟨rfl, rfl⟩; rw [HD.out])
          | (go_at_call 68; refine (ordered_c _ _ _ _ _ (by omega) (by omega) _).mono ?_; rintro e w2 ⟨rfl, hb⟩; (first | (rw [HL.out]; have HB1 := Lib.hid (nextB B0.out hb); have F1 := Lib.hid (F.out.after hb); have Z1 := Lib.hid (Z.out.after hb); have c1 := F1.out.cell) | (rw [HX.out]; have HB2 := Lib.hid (nextB HB1.out hb); have F2 := Lib.hid (F1.out.after hb); have Z2 := Lib.hid (Z1.out.after hb))); clear hb))
        refine wp_free1 6 5 119 #[.int .i64 0, .int .i64 0, .int .i64 0, .int .i64 0] (by kernel_rfl) (by kernel_rfl) (by kernel_rfl) (by decide) (by decide) rfl ⟨rfl, fun a w => by kernel_rfl⟩ ?_
        intro K hK
        refine Obl.row (by decide) rfl 26 _ rfl w.heap.size rfl 26 _ _ F2.out Tryz.underlying26 rfl (by kernel_rfl) ?_
        apply Obl.call (by decide) rfl; (intro w' hb; go_simp; exact ⟨rfl, rfl⟩); (intro w' hb; exact HR.out w')
        repeat (apply Obl.val (by decide) rfl; (intro w' hb; have := (F2.out.after hb).cell; go_simp; rfl))
        apply Obl.makes
        apply Obl.nil
        apply hK
        intro B5 w5 hb hBB hB
        simp only [Act.put, List.setIfInBounds_toArray, List.set_cons_zero, List.set_cons_succ, List.drop_succ_cons, List.drop_zero]
        clear hK K
        have HB5 := Lib.hid hB
        have hB5w : w.heap.size ≤ B5 := by have := HB2.out.size; omega
        have HW5 := Lib.hid (rowB (nextB HB2.out hb) hB5w #[.int .i64 r1, .int .i64 r2, .int .i64 x, .int .i64 y])
        have Z5 := Lib.hid ((Z2.out.after hb).setRow_far (show w.heap.size + 1 ≠ B5 by have := Z2.out.lt; omega) #[.int .i64 r1, .int .i64 r2, .int .i64 x, .int .i64 y])
        have R5 := Lib.hid (hB.setRow #[.int .i64 r1, .int .i64 r2, .int .i64 x, .int .i64 y])
        clear hb hB
        have HLf := Lib.hid (HLe.out _ B5 (SlOf.of_cells prC_len R5.out rfl rfl))
        go_wp2_with (first
          | (refine wpList_store_all rfl 119 _ _ rfl B5 rfl _ rfl 119 _ HB5.out (by kernel_rfl) rfl (by simp [Value.oneCell']) ?_)
          | (go_at_call 70; refine HLf.out.mono ?_; rintro e w6 ⟨rfl, hb6⟩; have HB6 := Lib.hid (nextB HW5.out hb6); have Z6 := Lib.hid (Z5.out.after hb6); clear hb6)
          | (refine wpList_store_all rfl 24 _ _ rfl (w.heap.size + 1) rfl _ rfl 24 _ Z6.out (by kernel_rfl) rfl (by simp [Value.oneCell']) ?_))
        exact bodyPost_ret (results_row_tmp Tryz.results17 _ _ (w.heap.size + 1) 24 _ (0, 0) _ rfl (Z6.out.setRow _) Tryz.underlying24 rfl (by kernel_rfl)) rfl ⟨rfl, rowB HB6.out (by omega) _⟩

/-- The specification's Clock. -/
theorem refClock_c (d l h x y : Int) (w : World) : Calls Tryz.prog 21 #[.agg #[.int .i64 d, .int .i64 l, .int .i64 h, .int .i64 x, .int .i64 y]] w fun e w' => e = .returned (.bool (clkB d l h x y)) ∧ Below w.heap.size w w' := by
  have F := Lib.hid (Has.new w 26 #[.int .i64 d, .int .i64 l, .int .i64 h, .int .i64 x, .int .i64 y])
  have B0 := Lib.hid (newB (Below.refl w.heap.size w) (.cells #[.int .i64 d, .int .i64 l, .int .i64 h, .int .i64 x, .int .i64 y] 26))
  cases hd : inB d 0 20
  · have HE := Lib.hid (show clkB d l h x y = false by simp [clkB, hd])
    have HD := Lib.hid hd
    rw [HE.out]
    clear hd HE
    go_enter Tryz.func21, Tryz.ntmps21
    go_wp2_with (go_at_call 72; refine (in_c d 0 20 _).mono ?_; rintro e w1 ⟨rfl, rfl⟩; rw [HD.out])
    exact bodyPost_ret (results_tmp rfl _ _ _) rfl ⟨rfl, B0.out⟩
  · have HD := Lib.hid hd
    cases hl : ordB l h 1 60 60
    · have HE := Lib.hid (show clkB d l h x y = false by simp [clkB, hl])
      have HL := Lib.hid hl
      rw [HE.out]
      clear hd hl HE
      go_enter Tryz.func21, Tryz.ntmps21
      go_wp2_with (first
        | (go_at_call 72; refine (in_c d 0 20 _).mono ?_; rintro e w1 ⟨rfl, rfl⟩; rw [HD.out])
        | (go_at_call 23; refine (Span_c _ _ _ _ _ (by omega) (by omega) _).mono ?_; rintro e w2 ⟨rfl, hb⟩; rw [HL.out]; have HB1 := Lib.hid (nextB B0.out hb); clear hb))
      exact bodyPost_ret (results_tmp rfl _ _ _) rfl ⟨rfl, HB1.out⟩
    · have HL := Lib.hid hl
      have HE := Lib.hid (show clkB d l h x y = ordB x y 0 1260 1260 by simp [clkB, hd, hl])
      rw [HE.out]
      clear hd hl HE
      go_enter Tryz.func21, Tryz.ntmps21
      go_wp2_with (first
        | (go_at_call 72; refine (in_c d 0 20 _).mono ?_; rintro e w1 ⟨rfl, rfl⟩; rw [HD.out])
        | (go_at_call 23; refine (Span_c _ _ _ _ _ (by omega) (by omega) _).mono ?_; rintro e w2 ⟨rfl, hb⟩; (first | (rw [HL.out]; have HB1 := Lib.hid (nextB B0.out hb); have F1 := Lib.hid (F.out.after hb); have c1 := F1.out.cell) | (have HB2 := Lib.hid (nextB HB1.out hb))); clear hb))
      exact bodyPost_ret (results_tmp rfl _ _ _) rfl ⟨rfl, HB2.out⟩

def soundsB (n : Nat) (xs : List So) : Bool := xs.all soB && inB n 1 4
set_option maxHeartbeats 2000000 in
/-- The specification's Soundings. -/
theorem refSoundings_c (A : Option Addr) (n c : Nat) (xs : List So) (hn : n ≤ 1000000) (w : World) (hs : SlOf So.cs 4 w A n xs) :
    Calls Tryz.prog 20 #[.slice A n c] w fun e w' => e = .returned (.bool (soundsB n xs)) ∧ Below w.heap.size w w' := by
  have HS := Lib.hid hs
  have HN := Lib.hid hs.1
  clear hs
  go_enter Tryz.func20, Tryz.ntmps20
  go_wp2
  go_loopw [3] (fun v wr => ∃ k : Nat, k ≤ n ∧ v = .int .i64 k ∧ Below w.heap.size w wr ∧ ∀ (j : Nat) x, j < k → xs[j]? = some x → soB x = true) (fun v _ => n - (intOf v).toNat)
  case atStart => exact ⟨0, by omega, rfl, Below.refl _ _, fun j x hj => absurd hj (by omega)⟩
  case round =>
    obtain ⟨k, hk, rfl, hB, hA⟩ := hrel
    have HB := Lib.hid hB; have HA := Lib.hid hA
    have hz := hB.size
    clear hB hA
    by_cases hkn : k < n
    · have hkl : k < xs.length := by rw [HN.out]; exact hkn
      obtain ⟨b, o, he⟩ := HS.out.addr (by omega)
      have hx := List.getElem?_eq_getElem hkl
      obtain ⟨x, hxx⟩ : ∃ x, x = xs[k] := ⟨_, rfl⟩
      rw [← hxx] at hx
      subst he
      have hR := Lib.hid ((HS.out.keep HB.out).range So.cs_len hx)
      have HX := Lib.hid hx
      obtain ⟨d, l, h, e⟩ := x
      replace hR := Lib.hid (show wr.rangeAt b (o + k * 4) [.int .i64 d, .int .i64 l, .int .i64 h, .int .i64 e] from hR.out)
      have hc0 : wr.cell? ⟨b, o + k * 4, none⟩ = some (.int .i64 d) := by simpa using hR.out 0 _ rfl
      have hc1 : wr.cell? ⟨b, o + k * 4 + 1, none⟩ = some (.int .i64 l) := hR.out 1 _ rfl
      have hc2 : wr.cell? ⟨b, o + k * 4 + 1 + 1, none⟩ = some (.int .i64 h) := hR.out 2 _ rfl
      have hR3 := Lib.hid (show ∀ w' : World, Below wr.heap.size wr w' → w'.cell? ⟨b, o + k * 4 + 3, none⟩ = some (.int .i64 e) from fun w' hb => by
        have h1 := hR.out 3 _ rfl
        rw [← h1]
        exact hb.cell (p := ⟨b, o + k * 4 + 3, none⟩) (block_lt_of_cell h1))
      clear hx hxx hR
      cases hd : inB d 0 40
      · have HD := Lib.hid hd
        clear hd
        go_wp2_with (go_at_call 72; refine (in_c _ _ _ _).mono ?_; rintro e w1 ⟨rfl, rfl⟩; rw [HD.out])
        exact bodyPost_ret (results_tmp rfl _ _ _) rfl ⟨by rw [soundsB, all_not HX.out (by simp [soB, HD.out])]; simp, HB.out⟩
      · have HD := Lib.hid hd
        cases hl : ordB l h 0 20 20
        · have HL := Lib.hid hl
          clear hd hl
          go_wp2_with (first
            | (go_at_call 72; refine (in_c _ _ _ _).mono ?_; rintro e w1 ⟨rfl, rfl⟩; rw [HD.out])
            | (go_at_call 23; refine (Span_c _ _ _ _ _ (by omega) (by omega) _).mono ?_; rintro e w2 ⟨rfl, hb⟩; rw [HL.out]; have HB1 := Lib.hid (nextB HB.out hb); clear hb))
          exact bodyPost_ret (results_tmp rfl _ _ _) rfl ⟨by rw [soundsB, all_not HX.out (by simp [soB, HL.out])]; simp, HB1.out⟩
        · have HL := Lib.hid hl
          cases hf : inB e 0 3
          all_goals
            have HF := Lib.hid hf
            clear hd hl hf
            go_wp2_with (first
              | (go_at_call 72; refine (in_c _ _ _ _).mono ?_; rintro e w1 ⟨rfl, rfl⟩; (first | rw [HD.out] | rw [HF.out]))
              | (go_at_call 23; refine (Span_c _ _ _ _ _ (by omega) (by omega) _).mono ?_; rintro e w2 ⟨rfl, hb⟩; rw [HL.out]; have HB1 := Lib.hid (nextB HB.out hb); have hc3 := hR3.out _ hb; clear hb))
          · exact bodyPost_ret (results_tmp rfl _ _ _) rfl ⟨by rw [soundsB, all_not HX.out (by simp [soB, HF.out])]; simp, HB1.out⟩
          · go_roundw
            case rel => exact ⟨k + 1, by omega, by go_num, HB1.out, all_next HA.out HX.out (by simp [soB, HD.out, HL.out, HF.out])⟩
            case measure => simp [intOf]; omega
    · have hall := all_take HN.out HA.out (by omega : n ≤ k)
      have HE := Lib.hid (show soundsB n xs = inB n 1 4 by simp [soundsB, hall])
      clear hall
      go_wp2_with (go_at_call 72; refine (in_c _ _ _ _).mono ?_; rintro e w1 ⟨rfl, rfl⟩)
      exact bodyPost_ret (results_tmp rfl _ _ _) rfl ⟨by rw [HE.out]; rfl, HB.out⟩
end Go.Proofs
namespace Go.Proofs
open Go.RowKit Go.Shelf Gas
attribute [local go_sem ↓] Go.wp_at_zero Go.wp_at_succ

def leftL (l : List Pr) : Pr × Int := match l with | [] => ((0, 0), 2) | x :: ys => leftR x.1 x.2 ys
def depR (n : Nat) (xs : List So) : Pr × Int := if inB n 1 4 && xs.all soB then leftL (xs.map soF) else ((0, 0), 2)

set_option maxHeartbeats 4000000 in
/-- Depth at every list. -/
theorem Depth_a (A : Option Addr) (n c : Nat) (xs : List So) (w : World) (hs : SlOf So.cs 4 w A n xs) :
    Calls Tryz.prog 16 #[.slice A n c] w fun e w' => e = .returned (.tuple #[.agg #[.int .i64 (depR n xs).1.1, .int .i64 (depR n xs).1.2], .int .i64 (depR n xs).2]) ∧ Below w.heap.size w w' := by
  have Z := Lib.hid (Has.new w 24 #[.int .i64 0, .int .i64 0])
  have B0 := Lib.hid (newB (Below.refl w.heap.size w) (.cells #[.int .i64 0, .int .i64 0] 24))
  cases hn : inB n 1 4
  · have HE := Lib.hid (show depR n xs = ((0, 0), 2) by simp [depR, hn])
    have HI := Lib.hid hn
    rw [HE.out]
    clear hn HE hs
    go_enter Tryz.func16, Tryz.ntmps16
    go_wp2_with (first
      | (go_at_call 67; refine (within_c _ _ _ _).mono ?_; rintro e w1 ⟨rfl, rfl⟩; rw [HI.out])
      | (refine wpList_store_all rfl 24 _ _ rfl w.heap.size rfl _ rfl 24 _ Z.out (by kernel_rfl) rfl (by simp [Value.oneCell']) ?_))
    exact bodyPost_ret (results_row_tmp Tryz.results16 _ _ w.heap.size 24 _ (0, 0) _ rfl (Z.out.setRow _) Tryz.underlying24 rfl (by kernel_rfl)) rfl ⟨rfl, rowB B0.out (by omega) _⟩
  · have hn4 := of_decide_eq_true hn
    have HI := Lib.hid hn; have HS := Lib.hid hs; have HN := Lib.hid hs.1
    have HE := Lib.hid fun (h : xs.all soB = true) => (show depR n xs = leftL (xs.map soF) by simp only [depR, hn, h, Bool.and_self, if_true])
    have HEn := Lib.hid fun (h : xs.all soB = false) => (show depR n xs = ((0, 0), 2) by simp only [depR, hn, h, Bool.and_false, Bool.false_eq_true, if_false])
    clear hn hs
    generalize depR n xs = res at *
    have H0 := Lib.hid (show (w.alloc (.cells #[.int .i64 0, .int .i64 0] 24)).ownsRow (w.heap.size + 1) 24 2 (.slice none 0 0) ((xs.take 0).map soF).length (flat prC ((xs.take 0).map soF)) from World.ownsRow_nil _ _ _ _)
    go_enter Tryz.func16, Tryz.ntmps16
    go_wp2_with (go_at_call 67; refine (within_c _ _ _ _).mono ?_; rintro e w1 ⟨rfl, rfl⟩; rw [HI.out])
    go_loopw [4, 14] (fun v i wr => ∃ k : Nat, k ≤ n ∧ i = .int .i64 k ∧ wr.ownsRow (w.heap.size + 1) 24 2 v ((xs.take k).map soF).length (flat prC ((xs.take k).map soF)) ∧ Below w.heap.size w wr ∧ Has wr w.heap.size 24 #[.int .i64 0, .int .i64 0] ∧ ∀ (j : Nat) x, j < k → xs[j]? = some x → soB x = true) (fun _ i _ => n - (intOf i).toNat)
    case atStart => exact ⟨0, by omega, rfl, H0.out, B0.out, Z.out, fun j x hj => absurd hj (by omega)⟩
    case round =>
      obtain ⟨k, hk, rfl, hO, hB, hZ, hA⟩ := hrel
      have HO := Lib.hid hO; have HB := Lib.hid hB; have HZ := Lib.hid hZ; have HA := Lib.hid hA
      clear hO hB hZ hA
      by_cases hkn : k < n
      · have hkl : k < xs.length := by rw [HN.out]; exact hkn
        obtain ⟨b, o, he⟩ := HS.out.addr (by omega)
        have hx := List.getElem?_eq_getElem hkl
        have HT := Lib.hid (List.take_append_getElem hkl)
        obtain ⟨x, hxx⟩ : ∃ x, x = xs[k] := ⟨_, rfl⟩
        rw [← hxx] at hx HT
        subst he
        have hR := Lib.hid ((HS.out.keep HB.out).range So.cs_len hx)
        have HX := Lib.hid hx
        clear hx hxx
        obtain ⟨d, sl, sh, er⟩ := x
        replace hR := Lib.hid (show wr.rangeAt b (o + k * 4) [.int .i64 d, .int .i64 sl, .int .i64 sh, .int .i64 er] from hR.out)
        have HTs := Lib.hid (show (xs.take (k + 1)).map soF = (xs.take k).map soF ++ [soF ⟨d, sl, sh, er⟩] by rw [← HT.out]; simp)
        have hlk : ((xs.take k).map soF).length ≤ 1000000 := by simp; omega
        have N := Lib.hid (Has.new wr 39 #[.int .i64 d, .int .i64 sl, .int .i64 sh, .int .i64 er])
        have HO1 := Lib.hid (HO.out.alloc (.cells #[.int .i64 d, .int .i64 sl, .int .i64 sh, .int .i64 er] 39))
        have HZ1 := Lib.hid (HZ.out.alloc (.cells #[.int .i64 d, .int .i64 sl, .int .i64 sh, .int .i64 er] 39))
        have HB1 := Lib.hid (newB HB.out (.cells #[.int .i64 d, .int .i64 sl, .int .i64 sh, .int .i64 er] 39))
        cases q1 : inB d 0 40
        · have Q1 := Lib.hid q1
          clear q1
          go_wp2_with (first
            | (refine wpList_load_mid rfl 39 _ rfl b (o + k * 4) rfl _ _ hR.out Tryz.underlying39 rfl (by kernel_rfl) ?_)
            | (go_at_call 67; refine (within_c _ _ _ _).mono ?_; rintro e w1 ⟨rfl, rfl⟩; rw [Q1.out])
            | (refine wpList_store_all rfl 24 _ _ rfl w.heap.size rfl _ rfl 24 _ HZ1.out (by kernel_rfl) rfl (by simp [Value.oneCell']) ?_))
          exact bodyPost_ret (results_row_tmp Tryz.results16 _ _ w.heap.size 24 _ (0, 0) _ rfl (HZ1.out.setRow _) Tryz.underlying24 rfl (by kernel_rfl)) rfl ⟨by rw [HEn.out (all_not HX.out (by simp [soB, Q1.out]))]; rfl, rowB HB1.out (by omega) _⟩
        · have Q1 := Lib.hid q1
          cases q2 : ordB sl sh 0 20 20
          · have Q2 := Lib.hid q2
            clear q1 q2
            go_wp2_with (first
              | (refine wpList_load_mid rfl 39 _ rfl b (o + k * 4) rfl _ _ hR.out Tryz.underlying39 rfl (by kernel_rfl) ?_)
              | (go_at_call 67; refine (within_c _ _ _ _).mono ?_; rintro e w1 ⟨rfl, rfl⟩; rw [Q1.out])
              | (go_at_call 68; refine (ordered_c _ _ _ _ _ (by omega) (by omega) _).mono ?_; rintro e w2 ⟨rfl, hb⟩; rw [Q2.out]; have HB2 := Lib.hid (nextB HB1.out hb); have HZ2 := Lib.hid (HZ1.out.after hb); clear hb)
              | (refine wpList_store_all rfl 24 _ _ rfl w.heap.size rfl _ rfl 24 _ HZ2.out (by kernel_rfl) rfl (by simp [Value.oneCell']) ?_))
            exact bodyPost_ret (results_row_tmp Tryz.results16 _ _ w.heap.size 24 _ (0, 0) _ rfl (HZ2.out.setRow _) Tryz.underlying24 rfl (by kernel_rfl)) rfl ⟨by rw [HEn.out (all_not HX.out (by simp [soB, Q2.out]))]; rfl, rowB HB2.out (by omega) _⟩
          · have Q2 := Lib.hid q2
            cases q3 : inB er 0 3
            · have Q3 := Lib.hid q3
              clear q1 q2 q3
              go_wp2_with (first
                | (refine wpList_load_mid rfl 39 _ rfl b (o + k * 4) rfl _ _ hR.out Tryz.underlying39 rfl (by kernel_rfl) ?_)
                | (go_at_call 67; refine (within_c _ _ _ _).mono ?_; rintro e w1 ⟨rfl, rfl⟩; (first | rw [Q1.out] | rw [Q3.out]))
                | (go_at_call 68; refine (ordered_c _ _ _ _ _ (by omega) (by omega) _).mono ?_; rintro e w2 ⟨rfl, hb⟩; rw [Q2.out]; have HB2 := Lib.hid (nextB HB1.out hb); have HZ2 := Lib.hid (HZ1.out.after hb); have N2 := Lib.hid (N.out.after hb); have c2 := N2.out.cell; clear hb)
                | (refine wpList_store_all rfl 24 _ _ rfl w.heap.size rfl _ rfl 24 _ HZ2.out (by kernel_rfl) rfl (by simp [Value.oneCell']) ?_))
              exact bodyPost_ret (results_row_tmp Tryz.results16 _ _ w.heap.size 24 _ (0, 0) _ rfl (HZ2.out.setRow _) Tryz.underlying24 rfl (by kernel_rfl)) rfl ⟨by rw [HEn.out (all_not HX.out (by simp [soB, Q3.out]))]; rfl, rowB HB2.out (by omega) _⟩
            · have Q3 := Lib.hid q3
              have p1 := of_decide_eq_true q1; have p2 := of_decide_eq_true q2; have p3 := of_decide_eq_true q3
              clear q1 q2 q3
              have HSd := Lib.hid fun (w' : World) => sounded_c d sl sh er (by omega) (by omega) (by omega) (by omega) w'
              go_wp2_with (first
                | (refine wpList_load_mid rfl 39 _ rfl b (o + k * 4) rfl _ _ hR.out Tryz.underlying39 rfl (by kernel_rfl) ?_)
                | (go_at_call 67; refine (within_c _ _ _ _).mono ?_; rintro e w1 ⟨rfl, rfl⟩; (first | rw [Q1.out] | rw [Q3.out]))
                | (go_at_call 68; refine (ordered_c _ _ _ _ _ (by omega) (by omega) _).mono ?_; rintro e w2 ⟨rfl, hb⟩; rw [Q2.out]; have HB2 := Lib.hid (nextB (newB HB.out (.cells #[.int .i64 d, .int .i64 sl, .int .i64 sh, .int .i64 er] 39)) hb); have N2 := Lib.hid (N.out.after hb); have c2 := N2.out.cell; have Hb := Lib.hid hb; clear hb)
                | (go_at_call 69; refine (HSd.out _).mono ?_; rintro e w3 ⟨rfl, hb⟩; have HB3 := Lib.hid (nextB HB2.out hb); have HO3 := Lib.hid (owns_keep (owns_keep HO1.out Hb.out) hb); have HZ3 := Lib.hid ((((HZ.out.alloc (.cells #[.int .i64 d, .int .i64 sl, .int .i64 sh, .int .i64 er] 39)).after Hb.out).after hb)); clear hb)
                | (at_builtin; refine wpList_app51 rfl _ _ rfl (w.heap.size + 1) u4 _ rfl (HO3.out.alloc _) hlk w3.heap.size (soF ⟨d, sl, sh, er⟩) rfl (Has.new w3 24 _) (by have := HZ3.out.lt; simp; omega) ?_; intro v5 w5 ho5 hb5 _ hk5; have HO5 := Lib.hid ho5; have HB5 := Lib.hid ((newB HB3.out (.cells #[.int .i64 (soF ⟨d, sl, sh, er⟩).1, .int .i64 (soF ⟨d, sl, sh, er⟩).2] 24)).trans (hb5.mono (Nat.le_succ _))); have HZ5 := Lib.hid (hk5 w.heap.size _ (fun e => by have := (HO3.out.lt _ e).1; omega) (HZ3.out.alloc _)); clear ho5 hb5 hk5))
              go_roundw
              case rel => exact ⟨k + 1, by omega, by go_num, by rw [HTs.out]; exact HO5.out, HB5.out, HZ5.out, all_next HA.out HX.out (by simp [soB, Q1.out, Q2.out, Q3.out])⟩
              case measure => simp [intOf]; omega
      · have hke : k = n := by omega
        subst hke
        have hall := all_take HN.out HA.out (Nat.le_refl k)
        obtain ⟨x0, x1, ys, hL⟩ : ∃ x0 x1 ys, xs.map soF = (x0, x1) :: ys := by
          cases xs with
          | nil => have h0 : 0 = k := HN.out; omega
          | cons y r => exact ⟨_, _, _, rfl⟩
        have HR := Lib.hid (show res = leftR x0 x1 ys by rw [HE.out hall, hL]; rfl)
        have ht : (xs.take k).map soF = (x0, x1) :: ys := by rw [List.take_of_length_le (by rw [HN.out]; exact Nat.le_refl _)]; exact hL
        have ho := HO.out
        rw [ht] at ho
        have hlen : ((x0, x1) :: ys : List Pr).length = k := by rw [← hL]; simpa using HN.out
        rw [hlen] at ho
        rcases ho.2 with ⟨_, h⟩ | ⟨g, cap, cur, e1, h2, h3, h4, h5, h6, h7⟩
        · omega
        · subst e1
          have hrow : RowOf prC 2 wr g 24 k ((x0, x1) :: ys) := ⟨cur, h3, hlen, fun j u hu => by
            rw [← h7, List.getElem?_take] at hu
            split at hu
            · rw [← Array.getElem?_toList]; exact hu
            · cases hu⟩
          have HLf := Lib.hid (left_a x0 x1 g 0 k cap ys (by omega) (by omega) h4 wr (hrow.sl prC_len))
          rw [← HR.out] at HLf
          clear h2 h3 h5 h6 h7 ho hrow ht hL hlen
          go_wp2_with (first
            | (go_at_call 70; refine HLf.out.mono ?_; rintro e w6 ⟨rfl, hb6⟩; have HB6 := Lib.hid (nextB HB.out hb6); have Z6 := Lib.hid (HZ.out.after hb6); clear hb6)
            | (refine wpList_store_all rfl 24 _ _ rfl w.heap.size rfl _ rfl 24 _ Z6.out (by kernel_rfl) rfl (by simp [Value.oneCell']) ?_))
          exact bodyPost_ret (results_row_tmp Tryz.results16 _ _ w.heap.size 24 _ (0, 0) _ rfl (Z6.out.setRow _) Tryz.underlying24 rfl (by kernel_rfl)) rfl ⟨rfl, rowB HB6.out (by omega) _⟩

set_option maxHeartbeats 2000000 in
/-- The specification's Minutes. -/
theorem refMinutes_c (d l h x y : Int) (w : World) : Calls Tryz.prog 19 #[.agg #[.int .i64 d, .int .i64 l, .int .i64 h, .int .i64 x, .int .i64 y]] w fun e w' =>
    ∃ a b, e = .returned (.agg #[.int .i64 a, .int .i64 b]) ∧ (clkB d l h x y = true → (a, b) = narF (ranF d l h).1 (ranF d l h).2 [(x, y)]) ∧ Below w.heap.size w w' := by
  have Z := Lib.hid (Has.new' (w.alloc (.cells #[.int .i64 d, .int .i64 l, .int .i64 h, .int .i64 x, .int .i64 y] 26)) 24 #[.int .i64 0, .int .i64 0] (g := w.heap.size + 1) (by simp))
  have B0 := Lib.hid (newB (newB (Below.refl w.heap.size w) (.cells #[.int .i64 d, .int .i64 l, .int .i64 h, .int .i64 x, .int .i64 y] 26)) (.cells #[.int .i64 0, .int .i64 0] 24))
  have HK := Lib.hid fun hc : clkB d l h x y = true => (show IntKind.i64.wrap (d * l) = d * l ∧ IntKind.i64.wrap (d + 1) = d + 1 ∧ IntKind.i64.wrap ((d + 1) * h) = (d + 1) * h ∧ IntKind.i64.wrap ((d + 1) * h - 1) = (d + 1) * h - 1 by
    simp only [clkB, Bool.and_eq_true] at hc
    have h1 := of_decide_eq_true hc.1
    have h2 := of_decide_eq_true hc.2.1
    have m1 := mul_le (d := d) (s := l) (D := 20) (S := 60) h1 (by omega)
    have m2 := mul_le (d := d + 1) (s := h) (D := 21) (S := 60) (by omega) (by omega)
    exact ⟨wI (by omega) (by omega), wI (by omega) (by omega), wI (by omega) (by omega), wI (by omega) (by omega)⟩)
  cases hc : clkB d l h x y
  · clear HK
    generalize hq : (20 : Int) = q at *
    clear hq hc
    go_enter Tryz.func19, Tryz.ntmps19
    go_wp2_with (refine wpList_store_all rfl 24 _ _ rfl (w.heap.size + 1) rfl _ rfl 24 _ Z.out (by kernel_rfl) rfl (by simp [Value.oneCell']) ?_)
    all_goals exact bodyPost_ret (results_cell_row Tryz.results19 _ _ (w.heap.size + 1) 24 _ (0, 0) _ rfl (Z.out.setRow _) Tryz.underlying24 rfl (by kernel_rfl)) rfl ⟨_, _, rfl, fun h => Bool.noConfusion h, rowB B0.out (by omega) _⟩
  · obtain ⟨w1, w2, w3, w4⟩ := HK.out hc
    clear HK hc
    have HN := Lib.hid (show narF (ranF d l h).1 (ranF d l h).2 [(x, y)] = (max (d * l) x, min ((d + 1) * h - 1) y) from rfl)
    rw [HN.out]
    clear HN
    obtain ⟨m, hm⟩ : ∃ m, m = d * l := ⟨_, rfl⟩
    obtain ⟨p, hp⟩ : ∃ p, p = (d + 1) * h := ⟨_, rfl⟩
    rw [← hm] at w1 ⊢
    rw [← hp] at w3 w4 ⊢
    have HM := Lib.hid hm.symm; have HP := Lib.hid hp.symm
    have w5 : IntKind.i64.wrap (d * l) = m := by rw [HM.out, w1]
    have w6 : IntKind.i64.wrap ((d + 1) * h) = p := by rw [HP.out, w3]
    clear hm hp HM HP
    go_enter Tryz.func19, Tryz.ntmps19
    go_wp2_with (refine wpList_store_all rfl 24 _ _ rfl (w.heap.size + 1) rfl _ rfl 24 _ Z.out (by kernel_rfl) rfl (by simp [Value.oneCell']) ?_)
    all_goals exact bodyPost_ret (results_cell_row Tryz.results19 _ _ (w.heap.size + 1) 24 _ (0, 0) _ rfl (Z.out.setRow _) Tryz.underlying24 rfl (by kernel_rfl)) rfl ⟨_, _, rfl, fun _ => by simp only [Prod.mk.injEq]; omega, rowB B0.out (by omega) _⟩
end Go.Proofs
namespace Go.Proofs
open Go.RowKit Go.Shelf Gas
attribute [local go_sem ↓] Go.wp_at_zero Go.wp_at_succ

set_option maxHeartbeats 2000000 in
/-- The specification's Depth, of soundings as defined. -/
theorem refDepth_ok (A : Option Addr) (n c : Nat) (xs : List So) (hn : n ≤ 1000000) (hall : xs.all soB = true) (w : World) (hs : SlOf So.cs 4 w A n xs) :
    Calls Tryz.prog 18 #[.slice A n c] w fun e w' => e = .returned (.agg #[.int .i64 (narF 0 400 (xs.map soF)).1, .int .i64 (narF 0 400 (xs.map soF)).2]) ∧ Below w.heap.size w w' := by
  have HS := Lib.hid hs; have HN := Lib.hid hs.1; have HA := Lib.hid (List.all_eq_true.1 hall)
  clear hs hall
  have Z := Lib.hid ((Has.new w 24 #[.int .i64 0, .int .i64 0]).alloc (.cells #[.int .i64 0, .int .i64 400] 24))
  have F := Lib.hid (Has.new' (w.alloc (.cells #[.int .i64 0, .int .i64 0] 24)) 24 #[.int .i64 0, .int .i64 400] (g := w.heap.size + 1) (by simp))
  have B := Lib.hid (newB (newB (Below.refl w.heap.size w) (.cells #[.int .i64 0, .int .i64 0] 24)) (.cells #[.int .i64 0, .int .i64 400] 24))
  have H0 := Lib.hid (show (#[.int .i64 0, .int .i64 400] : Array Value) = #[.int .i64 (narF 0 400 ((xs.take 0).map soF)).1, .int .i64 (narF 0 400 ((xs.take 0).map soF)).2] from rfl)
  go_enter Tryz.func18, Tryz.ntmps18
  go_wp2
  go_loopw [4] (fun v wr => ∃ k : Nat, k ≤ n ∧ v = .int .i64 k ∧ Below w.heap.size w wr ∧ Has wr (w.heap.size + 1) 24 #[.int .i64 (narF 0 400 ((xs.take k).map soF)).1, .int .i64 (narF 0 400 ((xs.take k).map soF)).2] ∧ Has wr w.heap.size 24 #[.int .i64 0, .int .i64 0]) (fun v _ => n - (intOf v).toNat)
  case atStart => exact ⟨0, by omega, rfl, B.out, F.out.eq H0.out, Z.out⟩
  case round =>
    obtain ⟨k, hk, rfl, hB, hF, hZ⟩ := hrel
    have HB := Lib.hid hB; have HF := Lib.hid hF; have HZ := Lib.hid hZ
    have hc := hF.cell; have hf := hF.frozen; have hz := hF.lt
    clear hB hF hZ
    by_cases hkn : k < n
    · have hkl : k < xs.length := by rw [HN.out]; exact hkn
      obtain ⟨b, o, he⟩ := HS.out.addr (by omega)
      have hx := List.getElem?_eq_getElem hkl
      have hso := HA.out _ (List.getElem_mem hkl)
      have HT := Lib.hid (List.take_append_getElem hkl)
      obtain ⟨x, hxx⟩ : ∃ x, x = xs[k] := ⟨_, rfl⟩
      rw [← hxx] at hx HT hso
      subst he
      have hR := Lib.hid ((HS.out.keep HB.out).range So.cs_len hx)
      clear hx hxx
      obtain ⟨d, sl, sh, er⟩ := x
      replace hR := Lib.hid (show wr.rangeAt b (o + k * 4) [.int .i64 d, .int .i64 sl, .int .i64 sh, .int .i64 er] from hR.out)
      simp only [soB, Bool.and_eq_true] at hso
      obtain ⟨⟨q1, q2⟩, q3⟩ := hso
      have p1 := of_decide_eq_true q1; have p2 := of_decide_eq_true q2; have p3 := of_decide_eq_true q3
      have s1 := strF_bd (d := d) (s := sl) (by omega) (by omega)
      have s2 := strF_bd (d := d) (s := sh) (by omega) (by omega)
      have m1 := mul_le (d := d) (s := 100 + sl) (D := 40) (S := 120) (by omega) (by omega)
      have m2 := mul_le (d := d) (s := 100 + sh) (D := 40) (S := 120) (by omega) (by omega)
      have HSn := Lib.hid (show narF 0 400 ((xs.take (k + 1)).map soF) = (max (narF 0 400 ((xs.take k).map soF)).1 (max 0 (strF d sl - er)), min (narF 0 400 ((xs.take k).map soF)).2 (strF d sh + er)) by rw [← HT.out, List.map_append]; exact narF_snoc _ _ _ _)
      have ha0 : 0 ≤ (narF 0 400 ((xs.take k).map soF)).1 := by
        have : ∀ (l : List Pr) (a b : Int), 0 ≤ a → 0 ≤ (narF a b l).1 := by
          intro l
          induction l with
          | nil => intro a b h; exact h
          | cons y r ih => intro a b h; exact ih _ _ (by omega)
        exact this _ _ _ (by omega)
      have w1 : IntKind.i64.wrap (100 + sl) = 100 + sl := wI (by omega) (by omega)
      have w2 : IntKind.i64.wrap (100 + sh) = 100 + sh := wI (by omega) (by omega)
      have e1 : strF d sl = Int.tdiv (d * (100 + sl)) 100 := (Int.tdiv_eq_ediv_of_nonneg m1.1).symm
      have e2 : strF d sh = Int.tdiv (d * (100 + sh)) 100 := (Int.tdiv_eq_ediv_of_nonneg m2.1).symm
      have w3 : IntKind.i64.wrap (d * (100 + sl)) = d * (100 + sl) := wI (by omega) (by omega)
      have w4 : IntKind.i64.wrap (d * (100 + sh)) = d * (100 + sh) := wI (by omega) (by omega)
      have w5 : IntKind.i64.wrap (Int.tdiv (d * (100 + sl)) 100) = Int.tdiv (d * (100 + sl)) 100 := wI (by omega) (by omega)
      have w6 : IntKind.i64.wrap (Int.tdiv (d * (100 + sh)) 100) = Int.tdiv (d * (100 + sh)) 100 := wI (by omega) (by omega)
      have w7 : IntKind.i64.wrap (Int.tdiv (d * (100 + sl)) 100 - er) = Int.tdiv (d * (100 + sl)) 100 - er := wI (by omega) (by omega)
      have w8 : IntKind.i64.wrap (Int.tdiv (d * (100 + sh)) 100 + er) = Int.tdiv (d * (100 + sh)) 100 + er := wI (by omega) (by omega)
      rw [e1, e2] at HSn
      rw [e1] at s1; rw [e2] at s2
      clear e1 e2 q1 q2 q3 m1 m2
      generalize (narF 0 400 ((xs.take k).map soF)).1 = a at *
      generalize (narF 0 400 ((xs.take k).map soF)).2 = bb at *
      go_wp2_with (refine wpList_load_mid rfl 39 _ rfl b (o + k * 4) rfl _ _ hR.out Tryz.underlying39 rfl (by kernel_rfl) ?_)
      go_roundw
      case rel => exact ⟨k + 1, by omega, by go_num, newB (setB (setB HB.out (by show w.heap.size ≤ w.heap.size + 1; omega) _) (by show w.heap.size ≤ w.heap.size + 1; omega) _) _,
        (((HF.out.set 0 _).set 1 _).alloc _).eq (by rw [HSn.out]; first | (simp; done) | (simp; omega)), ((HZ.out.far (by show w.heap.size ≠ w.heap.size + 1; omega) _).far (by show w.heap.size ≠ w.heap.size + 1; omega) _).alloc _⟩
      case measure => simp [intOf]; omega
    · have hke : k = n := by omega
      subst hke
      have ht : xs.take k = xs := List.take_of_length_le (by rw [HN.out]; exact Nat.le_refl _)
      rw [ht] at HF hc
      clear ht
      go_wp2_with (first
        | (refine wpList_load_row rfl 24 _ rfl (w.heap.size + 1) rfl 24 _ (0, 0) _ HF.out Tryz.underlying24 rfl (by kernel_rfl) ?_)
        | (refine wpList_store_all rfl 24 _ _ rfl w.heap.size rfl _ rfl 24 _ HZ.out (by kernel_rfl) rfl (by simp [Value.oneCell']) ?_))
      exact bodyPost_ret (results_cell_row Tryz.results18 _ _ w.heap.size 24 _ (0, 0) _ rfl (HZ.out.setRow _) Tryz.underlying24 rfl (by kernel_rfl)) rfl ⟨rfl, rowB HB.out (by omega) _⟩
set_option maxHeartbeats 2000000 in
/-- The specification's Depth, of any list. -/
theorem refDepth_any (A : Option Addr) (n c : Nat) (xs : List So) (hn : n ≤ 1000000) (w : World) (hs : SlOf So.cs 4 w A n xs) :
    Calls Tryz.prog 18 #[.slice A n c] w fun e w' => (∃ a b, e = .returned (.agg #[.int .i64 a, .int .i64 b])) ∧ Below w.heap.size w w' := by
  have HS := Lib.hid hs; have HN := Lib.hid hs.1
  clear hs
  have Z := Lib.hid ((Has.new w 24 #[.int .i64 0, .int .i64 0]).alloc (.cells #[.int .i64 0, .int .i64 400] 24))
  have F := Lib.hid (Has.new' (w.alloc (.cells #[.int .i64 0, .int .i64 0] 24)) 24 #[.int .i64 0, .int .i64 400] (g := w.heap.size + 1) (by simp))
  have B := Lib.hid (newB (newB (Below.refl w.heap.size w) (.cells #[.int .i64 0, .int .i64 0] 24)) (.cells #[.int .i64 0, .int .i64 400] 24))
  go_enter Tryz.func18, Tryz.ntmps18
  go_wp2
  go_loopw [4] (fun v wr => ∃ k : Nat, k ≤ n ∧ v = .int .i64 k ∧ Below w.heap.size w wr ∧ (∃ a b, Has wr (w.heap.size + 1) 24 #[.int .i64 a, .int .i64 b]) ∧ Has wr w.heap.size 24 #[.int .i64 0, .int .i64 0]) (fun v _ => n - (intOf v).toNat)
  case atStart => exact ⟨0, by omega, rfl, B.out, ⟨_, _, F.out⟩, Z.out⟩
  case round =>
    obtain ⟨k, hk, rfl, hB, ⟨a, bb, hF⟩, hZ⟩ := hrel
    have HB := Lib.hid hB; have HF := Lib.hid hF; have HZ := Lib.hid hZ
    have hc := hF.cell; have hf := hF.frozen; have hz := hF.lt
    clear hB hF hZ
    by_cases hkn : k < n
    · have hkl : k < xs.length := by rw [HN.out]; exact hkn
      obtain ⟨b, o, he⟩ := HS.out.addr (by omega)
      have hx := List.getElem?_eq_getElem hkl
      obtain ⟨x, hxx⟩ : ∃ x, x = xs[k] := ⟨_, rfl⟩
      rw [← hxx] at hx
      subst he
      have hR := Lib.hid ((HS.out.keep HB.out).range So.cs_len hx)
      clear hx hxx
      obtain ⟨d, sl, sh, er⟩ := x
      replace hR := Lib.hid (show wr.rangeAt b (o + k * 4) [.int .i64 d, .int .i64 sl, .int .i64 sh, .int .i64 er] from hR.out)
      go_wp2_with (refine wpList_load_mid rfl 39 _ rfl b (o + k * 4) rfl _ _ hR.out Tryz.underlying39 rfl (by kernel_rfl) ?_)
      go_roundw
      case rel => exact ⟨k + 1, by omega, by go_num, newB (setB (setB HB.out (by show w.heap.size ≤ w.heap.size + 1; omega) _) (by show w.heap.size ≤ w.heap.size + 1; omega) _) _,
        ⟨_, _, ((HF.out.set 0 _).set 1 _).alloc _⟩, ((HZ.out.far (by show w.heap.size ≠ w.heap.size + 1; omega) _).far (by show w.heap.size ≠ w.heap.size + 1; omega) _).alloc _⟩
      case measure => simp [intOf]; omega
    · have hke : k = n := by omega
      subst hke
      go_wp2_with (first
        | (refine wpList_load_row rfl 24 _ rfl (w.heap.size + 1) rfl 24 _ (0, 0) _ HF.out Tryz.underlying24 rfl (by kernel_rfl) ?_)
        | (refine wpList_store_all rfl 24 _ _ rfl w.heap.size rfl _ rfl 24 _ HZ.out (by kernel_rfl) rfl (by simp [Value.oneCell']) ?_))
      exact bodyPost_ret (results_cell_row Tryz.results18 _ _ w.heap.size 24 _ (0, 0) _ rfl (HZ.out.setRow _) Tryz.underlying24 rfl (by kernel_rfl)) rfl ⟨⟨_, _, rfl⟩, rowB HB.out (by omega) _⟩
end Go.Proofs
namespace Go.Proofs
open Go.RowKit Go.Shelf Gas
attribute [local go_sem ↓] Go.wp_at_zero Go.wp_at_succ

theorem narF_lo : ∀ (ys : List Pr) (a b : Int), a ≤ (narF a b ys).1 ∧ (narF a b ys).2 ≤ b
  | [], a, b => ⟨Int.le_refl _, Int.le_refl _⟩
  | y :: r, a, b => by
    have := narF_lo r (max a y.1) (min b y.2)
    exact ⟨by have := this.1; show a ≤ (narF (max a y.1) (min b y.2) r).1; omega, by have := this.2; show (narF (max a y.1) (min b y.2) r).2 ≤ b; omega⟩
theorem leftR_cases (a b : Int) (ys : List Pr) : ((narF a b ys).2 < (narF a b ys).1 ∧ leftR a b ys = ((0, 0), 7)) ∨ ((narF a b ys).1 ≤ (narF a b ys).2 ∧ leftR a b ys = (narF a b ys, 0)) := by
  by_cases h : (narF a b ys).1 ≤ (narF a b ys).2
  · exact .inr ⟨h, if_pos h⟩
  · exact .inl ⟨by omega, if_neg h⟩
theorem soF_bd {s : So} (h : soB s = true) : 0 ≤ (soF s).1 ∧ (soF s).2 ≤ 400 := by
  obtain ⟨d, l, g, e⟩ := s
  simp only [soB, Bool.and_eq_true] at h
  obtain ⟨⟨q1, q2⟩, q3⟩ := h
  have p1 := of_decide_eq_true q1; have p2 := of_decide_eq_true q2; have p3 := of_decide_eq_true q3
  have s2 := strF_bd (d := d) (s := g) (by omega) (by omega)
  show 0 ≤ max 0 (strF d l - e) ∧ strF d g + e ≤ 400
  omega
/-- What a list of soundings leaves, by the specification's bounds. -/
theorem dep_cases (n : Nat) (xs : List So) : (soundsB n xs = false ∧ depR n xs = ((0, 0), 2)) ∨ (soundsB n xs = true ∧ xs.all soB = true ∧
    ((narF 0 400 (xs.map soF)).2 < (narF 0 400 (xs.map soF)).1 ∧ depR n xs = ((0, 0), 7) ∨ (narF 0 400 (xs.map soF)).1 ≤ (narF 0 400 (xs.map soF)).2 ∧ depR n xs = (narF 0 400 (xs.map soF), 0))) ∨ (soundsB n xs = true ∧ xs = []) := by
  cases hs : soundsB n xs
  · refine .inl ⟨rfl, ?_⟩
    have hs' : (inB (n : Int) 1 4 && xs.all soB) = false := by rw [Bool.and_comm]; exact hs
    simp [depR, hs']
  · have hs' := hs
    simp only [soundsB, Bool.and_eq_true] at hs
    obtain ⟨h1, h2⟩ := hs
    cases xs with
    | nil => exact .inr (.inr ⟨rfl, rfl⟩)
    | cons s r =>
      refine .inr (.inl ⟨rfl, h1, ?_⟩)
      have hb := soF_bd (List.all_eq_true.1 h1 s (by simp))
      have e : narF 0 400 ((s :: r).map soF) = narF (soF s).1 (soF s).2 (r.map soF) := by
        show narF (max 0 (soF s).1) (min 400 (soF s).2) (r.map soF) = _
        rw [show max 0 (soF s).1 = (soF s).1 by omega, show min 400 (soF s).2 = (soF s).2 by omega]
      have e2 : depR n (s :: r) = leftR (soF s).1 (soF s).2 (r.map soF) := by
        simp only [depR, h1, h2, Bool.and_self, if_true]; rfl
      rw [e, e2]
      exact leftR_cases _ _ _
theorem min_cases (d l h x y : Int) : (clkB d l h x y = false ∧ minR d l h x y = ((0, 0), 2)) ∨ (clkB d l h x y = true ∧
    ((narF (ranF d l h).1 (ranF d l h).2 [(x, y)]).2 < (narF (ranF d l h).1 (ranF d l h).2 [(x, y)]).1 ∧ minR d l h x y = ((0, 0), 7) ∨
     (narF (ranF d l h).1 (ranF d l h).2 [(x, y)]).1 ≤ (narF (ranF d l h).1 (ranF d l h).2 [(x, y)]).2 ∧ minR d l h x y = (narF (ranF d l h).1 (ranF d l h).2 [(x, y)], 0))) := by
  cases hc : clkB d l h x y
  · exact .inl ⟨rfl, by simp [minR, hc]⟩
  · refine .inr ⟨rfl, ?_⟩
    rw [show minR d l h x y = leftR (ranF d l h).1 (ranF d l h).2 [(x, y)] by simp [minR, hc]]
    exact leftR_cases _ _ _

/-- What the program and the specification say of bounds, where both mean the same. -/
def Agree (ok : Bool) (e a b : Int) (p q : Int) : Prop := (ok = false ∧ e = 2 ∧ a = 0 ∧ b = 0) ∨ (ok = true ∧ e = 7 ∧ a = 0 ∧ b = 0 ∧ q < p) ∨ (ok = true ∧ e = 0 ∧ a = p ∧ b = q ∧ p ≤ q)
def PairV (v : Value) (P : Int → Int → Prop) : Prop := ∃ a b, v = .agg #[.int .i64 a, .int .i64 b] ∧ P a b

set_option maxHeartbeats 4000000 in
set_option maxRecDepth 50000 in
theorem gauges_main (A : Option Addr) (n c : Nat) (hn : n ≤ 7) (d l h x y : Int) (w : World) (ok1 ok2 : Bool) (e1 a1 b1 e2 a2 b2 : Int) (P1 P2 : Int → Int → Prop)
    (HD : ∀ W, Below w.heap.size w W → Calls Tryz.prog 16 #[.slice A n c] W fun e w' => e = .returned (.tuple #[.agg #[.int .i64 a1, .int .i64 b1], .int .i64 e1]) ∧ Below W.heap.size W w')
    (HM : ∀ W, Calls Tryz.prog 17 #[.agg #[.int .i64 d, .int .i64 l, .int .i64 h, .int .i64 x, .int .i64 y]] W fun e w' => e = .returned (.tuple #[.agg #[.int .i64 a2, .int .i64 b2], .int .i64 e2]) ∧ Below W.heap.size W w')
    (HX : ∀ W, Below w.heap.size w W → Calls Tryz.prog 18 #[.slice A n c] W fun e w' => ∃ v, e = .returned v ∧ PairV v P1 ∧ Below W.heap.size W w')
    (HY : ∀ W, Calls Tryz.prog 19 #[.agg #[.int .i64 d, .int .i64 l, .int .i64 h, .int .i64 x, .int .i64 y]] W fun e w' => ∃ v, e = .returned v ∧ PairV v P2 ∧ Below W.heap.size W w')
    (HS : ∀ W, Below w.heap.size w W → Calls Tryz.prog 20 #[.slice A n c] W fun e w' => e = .returned (.bool ok1) ∧ Below W.heap.size W w')
    (HC : ∀ W, Calls Tryz.prog 21 #[.agg #[.int .i64 d, .int .i64 l, .int .i64 h, .int .i64 x, .int .i64 y]] W fun e w' => e = .returned (.bool ok2) ∧ Below W.heap.size W w')
    (G1 : ∀ p q, P1 p q → Agree ok1 e1 a1 b1 p q) (G2 : ∀ p q, P2 p q → Agree ok2 e2 a2 b2 p q) :
    Calls Tryz.prog 3 #[.slice A n c, .agg #[.int .i64 d, .int .i64 l, .int .i64 h, .int .i64 x, .int .i64 y]] w fun e w' => e = .returned (.bool true) ∧ Below w.heap.size w w' := by
  replace HD := Lib.hid HD; replace HM := Lib.hid HM; replace HX := Lib.hid HX; replace HY := Lib.hid HY; replace HS := Lib.hid HS; replace HC := Lib.hid HC; replace G1 := Lib.hid G1; replace G2 := Lib.hid G2
  have hn7 : ¬ n > 7 := by omega
  have F := Lib.hid (Has.new w 26 #[.int .i64 d, .int .i64 l, .int .i64 h, .int .i64 x, .int .i64 y])
  have B0 := Lib.hid (newB (Below.refl w.heap.size w) (.cells #[.int .i64 d, .int .i64 l, .int .i64 h, .int .i64 x, .int .i64 y] 26))
  go_enter Tryz.func3, Tryz.ntmps3
  go_wp2_with (first
    | (go_at_call 16; refine (HD.out _ B0.out).mono ?_; rintro e w16 ⟨rfl, hb⟩; have F1 := Lib.hid (F.out.after hb); have B1 := Lib.hid (nextB B0.out hb); have H5 := Lib.hid (Has.new w16 24 #[.int .i64 a1, .int .i64 b1]); clear hb)
    | (refine wpList_load_row rfl 26 _ rfl w.heap.size rfl 26 _ (0, 0) _ (F1.out.alloc _) Tryz.underlying26 rfl (by kernel_rfl) ?_)
    | (go_at_call 17; refine (HM.out _).mono ?_; rintro e w17 ⟨rfl, hb⟩; have F2 := Lib.hid ((F1.out.alloc _).after hb); have B2 := Lib.hid (nextB (newB B1.out _) hb); have H5b := Lib.hid (H5.out.after hb); clear hb))
  have F3 := Lib.hid (F2.out.alloc (.cells #[.int .i64 a2, .int .i64 b2] 24)); have B3 := Lib.hid (newB B2.out (.cells #[.int .i64 a2, .int .i64 b2] 24))
  have J5 := Lib.hid (H5b.out.alloc (.cells #[.int .i64 a2, .int .i64 b2] 24)); have J7 := Lib.hid (Has.new w17 24 #[.int .i64 a2, .int .i64 b2])
  clear F F1 F2 B0 B1 B2 H5 H5b HD HM
  generalize w16.heap.size = g5 at *
  generalize hg7 : w17.heap.size = g7 at *
  clear hg7
  generalize w17.alloc (.cells #[.int .i64 a2, .int .i64 b2] 24) = W at *
  have hl5 := J5.out.lt; have hl7 := J7.out.lt; have hl3 := F3.out.lt
  apply wp_loose2 6 (.v (.slice A n c) :: .r (fun v _ => PairV v P1) :: .v (.agg #[.int .i64 d, .int .i64 l, .int .i64 h, .int .i64 x, .int .i64 y]) :: .r (fun v _ => PairV v P2) :: .r (NewR W 24 #[.int .i64 0, .int .i64 0]) :: .r (NewR W 24 #[.int .i64 0, .int .i64 0]) :: []) 4 5 9 10 (by decide) rfl rfl ⟨rfl, fun a w => by kernel_rfl⟩ ⟨rfl, fun a w => by kernel_rfl⟩ rfl rfl rfl rfl (by simp) (by simp) (by kernel_rfl) (by kernel_rfl) (by kernel_rfl) (by decide) rfl
  intro K hK
  refine OblS.val (by kernel_rfl) (fun w' _ _ => (by kernel_rfl)) ?_
  refine OblS.callR 18 (fun _ _ _ h _ => h) (by kernel_rfl) (fun w' hb _ => ⟨#[.slice A n c], (by kernel_rfl), (HX.out w' (nextB B3.out hb))⟩) ?_
  intro v1
  refine OblS.row rfl 26 (.tmp 3) rfl w.heap.size (by kernel_rfl) 26 _ _ F3.out Tryz.underlying26 rfl (by kernel_rfl) ?_
  refine OblS.callR 19 (fun _ _ _ h _ => h) (by kernel_rfl) (fun w' hb _ => ⟨#[.agg #[.int .i64 d, .int .i64 l, .int .i64 h, .int .i64 x, .int .i64 y]], (by kernel_rfl), HY.out w'⟩) ?_
  intro v3
  refine OblS.makes ⟨rfl, fun a w => by kernel_rfl⟩ ?_
  intro v4
  refine OblS.makes ⟨rfl, fun a w => by kernel_rfl⟩ ?_
  intro v5
  apply OblS.nil
  apply hK
  intro w5 hb hH hne
  obtain ⟨g10, rfl, hg10, hh10⟩ := hH _ (List.mem_cons_self ..)
  obtain ⟨g9, rfl, hg9, hh9⟩ := hH _ (List.mem_cons_of_mem _ (List.mem_cons_self ..))
  obtain ⟨ya, yb, rfl, hy⟩ := hH _ (List.mem_cons_of_mem _ (List.mem_cons_of_mem _ (List.mem_cons_self ..)))
  obtain ⟨xa, xb, rfl, hx⟩ := hH _ (List.mem_cons_of_mem _ (List.mem_cons_of_mem _ (List.mem_cons_of_mem _ (List.mem_cons_self ..))))
  clear hH hK K
  have hn910 : g9 ≠ g10 := fun e => hne (by rw [e]; rfl)
  clear hne
  simp only [Act.put, List.setIfInBounds_toArray, List.set_cons_zero, List.set_cons_succ, List.drop_succ_cons, List.drop_zero]
  have A1 := G1.out xa xb hx; have A2 := G2.out ya yb hy
  have Hs9 := Lib.hid hh9; have Hs10 := Lib.hid (hh10.setRow_far (show g10 ≠ g9 from fun e => hn910 e.symm) #[.int .i64 xa, .int .i64 xb])
  have R9 := Lib.hid ((hh9.setRow #[.int .i64 xa, .int .i64 xb]).setRow_far hn910 #[.int .i64 ya, .int .i64 yb])
  have R10 := Lib.hid ((hh10.setRow_far (show g10 ≠ g9 from fun e => hn910 e.symm) #[.int .i64 xa, .int .i64 xb]).setRow #[.int .i64 ya, .int .i64 yb])
  have R5 := Lib.hid (((J5.out.after hb).setRow_far (show g5 ≠ g9 by omega) #[.int .i64 xa, .int .i64 xb]).setRow_far (show g5 ≠ g10 by omega) #[.int .i64 ya, .int .i64 yb])
  have R7 := Lib.hid (((J7.out.after hb).setRow_far (show g7 ≠ g9 by omega) #[.int .i64 xa, .int .i64 xb]).setRow_far (show g7 ≠ g10 by omega) #[.int .i64 ya, .int .i64 yb])
  have R3 := Lib.hid (((F3.out.after hb).setRow_far (show w.heap.size ≠ g9 by omega) #[.int .i64 xa, .int .i64 xb]).setRow_far (show w.heap.size ≠ g10 by omega) #[.int .i64 ya, .int .i64 yb])
  have B5 := Lib.hid (rowB (rowB (nextB B3.out hb) (show w.heap.size ≤ g9 by have := B3.out.size; omega) #[.int .i64 xa, .int .i64 xb]) (show w.heap.size ≤ g10 by have := B3.out.size; omega) #[.int .i64 ya, .int .i64 yb])
  clear hb hh9 hh10 J5 J7 F3 B3 HX HY G1 G2 hx hy hl5 hl7 hl3 hg9 hg10 hn910
  apply wpList_store_all rfl 24 _ _ rfl g9 rfl #[.int .i64 xa, .int .i64 xb] rfl 24 _ Hs9.out (by kernel_rfl) rfl (by simp [Value.oneCell'])
  apply wpList_store_all rfl 24 _ _ rfl g10 rfl #[.int .i64 ya, .int .i64 yb] rfl 24 _ Hs10.out (by kernel_rfl) rfl (by simp [Value.oneCell'])
  clear Hs9 Hs10
  generalize (w5.setRow g9 #[.int .i64 xa, .int .i64 xb]).setRow g10 #[.int .i64 ya, .int .i64 yb] = V at *
  simp only [Act.put]
  have c3 := R3.out.cell; have c5 := R5.out.cell; have c7 := R7.out.cell; have c9 := R9.out.cell; have c10 := R10.out.cell
  rcases A1 with ⟨rfl, rfl, rfl, rfl⟩ | ⟨rfl, rfl, rfl, rfl, k1⟩ | ⟨rfl, rfl, rfl, rfl, k1⟩
  all_goals rcases A2 with ⟨rfl, rfl, rfl, rfl⟩ | ⟨rfl, rfl, rfl, rfl, k2⟩ | ⟨rfl, rfl, rfl, rfl, k2⟩
  all_goals
    try have m1 : ¬ a1 > b1 := by omega
    try have m2 : ¬ a2 > b2 := by omega
    try have m3 : xa > xb := by omega
    try have m4 : ya > yb := by omega
    go_wp2_with (first
      | (go_at_call 20; refine (HS.out _ B5.out).mono ?_; rintro e w20 ⟨rfl, hb⟩; replace c3 := (R3.out.after hb).cell; replace c5 := (R5.out.after hb).cell; replace c7 := (R7.out.after hb).cell; replace c9 := (R9.out.after hb).cell; replace c10 := (R10.out.after hb).cell; replace R3 := Lib.hid (R3.out.after hb); replace R5 := Lib.hid (R5.out.after hb); replace R7 := Lib.hid (R7.out.after hb); replace R9 := Lib.hid (R9.out.after hb); replace R10 := Lib.hid (R10.out.after hb); replace B5 := Lib.hid (nextB B5.out hb); clear hb)
      | (go_at_call 21; refine (HC.out _).mono ?_; rintro e w21 ⟨rfl, hb⟩; replace c3 := (R3.out.after hb).cell; replace c5 := (R5.out.after hb).cell; replace c7 := (R7.out.after hb).cell; replace c9 := (R9.out.after hb).cell; replace c10 := (R10.out.after hb).cell; replace R3 := Lib.hid (R3.out.after hb); replace R5 := Lib.hid (R5.out.after hb); replace R7 := Lib.hid (R7.out.after hb); replace R9 := Lib.hid (R9.out.after hb); replace R10 := Lib.hid (R10.out.after hb); replace B5 := Lib.hid (nextB B5.out hb); clear hb)
      | (refine wpList_load_row rfl 26 _ rfl w.heap.size rfl 26 _ (0, 0) _ R3.out Tryz.underlying26 rfl (by kernel_rfl) ?_)
      | (go_at_call 15; refine (knownLaw_c _).mono ?_; rintro e w15 ⟨rfl, hb⟩; have HB := Lib.hid (nextB B5.out hb); clear hb))
    exact bodyPost_ret (results_tmp rfl _ _ _) rfl ⟨rfl, HB.out⟩

set_option maxRecDepth 50000 in
theorem gasGauges_walk (A : Option Addr) (n c : Nat) (xs : List So) (d l h x y : Int) (w : World) (hs : SlOf So.cs 4 w A n xs) :
    Calls Tryz.prog 3 #[.slice A n c, .agg #[.int .i64 d, .int .i64 l, .int .i64 h, .int .i64 x, .int .i64 y]] w fun e w' => e = .returned (.bool true) ∧ Below w.heap.size w w' := by
  by_cases hn : n ≤ 7
  · have hl := hs.1
    have HM := fun (W : World) => Minutes_a d l h x y W
    have HD := fun (W : World) (hb : Below w.heap.size w W) => Depth_a A n c xs W (hs.keep hb)
    have HS := fun (W : World) (hb : Below w.heap.size w W) => refSoundings_c A n c xs (by omega) W (hs.keep hb)
    refine gauges_main A n c hn d l h x y w _ _ _ _ _ _ _ _ (fun a b => Agree (soundsB n xs) (depR n xs).2 (depR n xs).1.1 (depR n xs).1.2 a b) (fun a b => Agree (clkB d l h x y) (minR d l h x y).2 (minR d l h x y).1.1 (minR d l h x y).1.2 a b) HD HM ?_ ?_ HS (fun W => refClock_c d l h x y W) (fun _ _ h => h) (fun _ _ h => h)
    · intro W hb
      rcases dep_cases n xs with ⟨h1, h2⟩ | ⟨h1, h2, h3⟩ | ⟨h1, h2⟩
      · refine (refDepth_any A n c xs (by omega) W (hs.keep hb)).mono fun e w' ⟨⟨a, b, h3⟩, h4⟩ => ⟨_, h3, ⟨a, b, rfl, ?_⟩, h4⟩
        rw [h1, h2]; exact .inl ⟨rfl, rfl, rfl, rfl⟩
      · refine (refDepth_ok A n c xs (by omega) h2 W (hs.keep hb)).mono fun e w' ⟨h4, h5⟩ => ⟨_, h4, ⟨_, _, rfl, ?_⟩, h5⟩
        rw [h1]
        rcases h3 with ⟨h3, h6⟩ | ⟨h3, h6⟩
        · rw [h6]; exact .inr (.inl ⟨rfl, rfl, rfl, rfl, h3⟩)
        · rw [h6]; exact .inr (.inr ⟨rfl, rfl, rfl, rfl, h3⟩)
      · subst h2
        have h0 : n = 0 := hl.symm
        subst h0
        exact absurd h1 (by decide)
    · intro W
      refine (refMinutes_c d l h x y W).mono fun e w' ⟨a, b, h1, h2, h3⟩ => ⟨_, h1, ⟨a, b, rfl, ?_⟩, h3⟩
      rcases min_cases d l h x y with ⟨q1, q2⟩ | ⟨q1, q3⟩
      · rw [q1, q2]; exact .inl ⟨rfl, rfl, rfl, rfl⟩
      · have h4 := h2 q1
        rw [← h4] at q3
        rw [q1]
        rcases q3 with ⟨q3, q6⟩ | ⟨q3, q6⟩
        · rw [q6]; exact .inr (.inl ⟨rfl, rfl, rfl, rfl, q3⟩)
        · rw [q6]; exact .inr (.inr ⟨rfl, rfl, rfl, rfl, q3⟩)
  · have hn7 : n > 7 := by omega
    go_enter Tryz.func3, Tryz.ntmps3
    go_wp2_with (go_at_call 15; refine (knownLaw_c _).mono ?_; rintro e w15 ⟨rfl, hb⟩; have HB := Lib.hid (nextB (newB (Below.refl w.heap.size w) (.cells #[.int .i64 d, .int .i64 l, .int .i64 h, .int .i64 x, .int .i64 y] 26)) hb); clear hb)
    exact bodyPost_ret (results_tmp rfl _ _ _) rfl ⟨rfl, HB.out⟩
end Go.Proofs
