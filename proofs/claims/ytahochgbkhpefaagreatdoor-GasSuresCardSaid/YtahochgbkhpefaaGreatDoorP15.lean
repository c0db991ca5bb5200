/-
  Contracts of the specification's Helps, Delayed, Chamber and Stop hold where table, man and stages are as defined.
-/
import Derived.Test.YtahochgbkhpefaaGreatDoorP13
import Derived.Test.YtahochgbkhpefaaGreatDoorP6
import Derived.Test.YtahochgbkhpefaaGreatDoorP14
namespace Go.Proofs
open Go.RowKit Gas

/-- The specification's search for a stop: minutes first, then depths in their order. -/
def searchN (p : Int → Int → Bool) (ds : List Int) : Nat → Int → Option Pr
  | 0, _ => none
  | k + 1, m => match ds.find? (fun d => p d m) with | some d => some (d, m) | none => searchN p ds k (m + 1)
/-- The specification's search for a chamber: depths first, then minutes. -/
def searchD (p : Int → Int → Bool) (n : Nat) : Nat → Int → Option Pr
  | 0, _ => none
  | k + 1, d => match firstFrom (p d) n 1 with | some m => some (d, m) | none => searchD p n k (d + 1)
theorem foldl_keep (lt : Pr → Pr → Bool) (x : Pr) : ∀ B : List Pr, (∀ y ∈ B, lt y x = false) → B.foldl (better lt) (some x) = some x
  | [], _ => rfl
  | y :: B, h => by
    have : better lt (some x) y = some x := by simp [better, h y (by simp)]
    rw [List.foldl_cons, this]
    exact foldl_keep lt x B fun z hz => h z (by simp [hz])
theorem foldl_mem (lt : Pr → Pr → Bool) : ∀ (A : List Pr) (o : Option Pr) (b : Pr), A.foldl (better lt) o = some b → o = some b ∨ b ∈ A
  | [], o, b, h => .inl h
  | y :: A, o, b, h => by
    rcases foldl_mem lt A _ b (by simpa using h) with h1 | h1
    · cases o with
      | none => simp [better] at h1; exact .inr (by simp [h1])
      | some c =>
        simp only [better] at h1
        split at h1
        · cases h1; exact .inr (by simp)
        · exact .inl h1
    · exact .inr (by simp [h1])
theorem bestOf_split (lt : Pr → Pr → Bool) (A B : List Pr) (x : Pr) (hA : ∀ y ∈ A, lt x y = true) (hB : ∀ y ∈ B, lt y x = false) : bestOf lt (A ++ x :: B) = some x := by
  unfold bestOf
  rw [List.foldl_append, List.foldl_cons]
  have : better lt (A.foldl (better lt) none) x = some x := by
    cases h : A.foldl (better lt) none with
    | none => rfl
    | some b =>
      rcases foldl_mem lt A none b h with h1 | h1
      · cases h1
      · simp [better, hA b h1]
  rw [this]
  exact foldl_keep lt x B hB
theorem firstFrom_ge (p : Int → Bool) : ∀ (n : Nat) (d m : Int), firstFrom p n d = some m → d ≤ m
  | 0, d, m, h => by cases h
  | n + 1, d, m, h => by
    unfold firstFrom at h
    split at h
    · cases h; omega
    · have := firstFrom_ge p n _ _ h; omega
theorem firstFrom_no (p : Int → Bool) (n : Nat) (d : Int) (h : p d = false) : firstFrom p (n + 1) d = firstFrom p n (d + 1) := by simp [firstFrom, h]
theorem firstFrom_all {p : Int → Bool} (h : ∀ x, p x = false) : ∀ (n : Nat) (d : Int), firstFrom p n d = none
  | 0, _ => rfl
  | n + 1, d => by rw [firstFrom_no p n d (h d)]; exact firstFrom_all h n (d + 1)
theorem find_split {p : Int → Bool} : ∀ {ds : List Int} {d : Int}, ds.find? p = some d → ∃ l1 l2, ds = l1 ++ d :: l2 ∧ p d = true ∧ ∀ x ∈ l1, p x = false
  | [], d, h => by cases h
  | x :: ds, d, h => by
    rw [List.find?_cons] at h
    split at h
    · rename_i hx; cases h; exact ⟨[], ds, rfl, hx, by simp⟩
    · rename_i hx
      obtain ⟨l1, l2, e, h1, h2⟩ := find_split h
      exact ⟨x :: l1, l2, by rw [e]; rfl, h1, fun y hy => by rcases List.mem_cons.1 hy with rfl | hy; exact hx; exact h2 y hy⟩
theorem find_no {p : Int → Bool} : ∀ {ds : List Int}, ds.find? p = none → ∀ x ∈ ds, p x = false := by
  intro ds h x hx
  have := List.find?_eq_none.1 h x hx
  simpa using this
theorem filterMap_same {α β : Type} {f g : α → Option β} : ∀ {l : List α}, (∀ x ∈ l, f x = g x) → l.filterMap f = l.filterMap g
  | [], _ => rfl
  | x :: l, h => by rw [List.filterMap_cons, List.filterMap_cons, h x (by simp), filterMap_same fun y hy => h y (by simp [hy])]
theorem best_searchN (p : Int → Int → Bool) (ds : List Int) : ∀ (k : Nat) (m : Int), bestOf ltM (ds.filterMap fun d => (firstFrom (p d) k m).map fun n => (d, n)) = searchN p ds k m
  | 0, m => by
    have : (ds.filterMap fun d => (firstFrom (p d) 0 m).map fun n => (d, n)) = [] := by
      rw [List.filterMap_eq_nil_iff]; intro d _; rfl
    rw [this]; rfl
  | k + 1, m => by
    unfold searchN
    cases hf : ds.find? (fun d => p d m) with
    | some d =>
      obtain ⟨l1, l2, e, h1, h2⟩ := find_split hf
      have hd : (firstFrom (p d) (k + 1) m).map (fun n => (d, n)) = some (d, m) := by simp [firstFrom, h1]
      rw [e, List.filterMap_append, List.filterMap_cons, hd]
      apply bestOf_split
      · intro y hy
        obtain ⟨x, hx, hy⟩ := List.mem_filterMap.1 hy
        rw [firstFrom_no _ _ _ (h2 x hx)] at hy
        obtain ⟨n, hn, rfl⟩ := Option.map_eq_some_iff.1 hy
        have := firstFrom_ge _ _ _ _ hn
        simp only [ltM, decide_eq_true_eq]; omega
      · intro y hy
        obtain ⟨x, hx, hy⟩ := List.mem_filterMap.1 hy
        obtain ⟨n, hn, rfl⟩ := Option.map_eq_some_iff.1 hy
        have := firstFrom_ge _ _ _ _ hn
        simp only [ltM, decide_eq_false_iff_not]; omega
    | none =>
      have hn := find_no hf
      simp only
      rw [← best_searchN p ds k (m + 1)]
      congr 1
      refine filterMap_same fun d hd => ?_
      simp only [firstFrom_no _ _ _ (hn d hd)]
def chF : Nat → Int → List Int
  | 0, _ => []
  | k + 1, d => d :: chF k (d + 1)
theorem chF_ge : ∀ (k : Nat) (d x : Int), x ∈ chF k d → d ≤ x
  | 0, d, x, h => by cases h
  | k + 1, d, x, h => by
    rcases List.mem_cons.1 h with rfl | h
    · omega
    · have := chF_ge k _ _ h; omega
theorem chF_snoc : ∀ (k : Nat) (d : Int), chF (k + 1) d = chF k d ++ [d + k]
  | 0, d => by simp [chF]
  | k + 1, d => by
    rw [chF, chF_snoc k (d + 1), chF, List.cons_append]
    congr 3; push_cast; omega
theorem chL_eq : ∀ n, chL n = chF n 1
  | 0 => rfl
  | n + 1 => by
    rw [chF_snoc, ← chL_eq n]; simp [chL, List.range_succ]; omega
theorem best_searchD (p : Int → Int → Bool) (n : Nat) : ∀ (k : Nat) (d : Int), bestOf ltD ((chF k d).filterMap fun d => (firstFrom (p d) n 1).map fun m => (d, m)) = searchD p n k d
  | 0, d => rfl
  | k + 1, d => by
    unfold searchD
    rw [chF, List.filterMap_cons]
    cases hf : firstFrom (p d) n 1 with
    | none => simp only [Option.map_none]; exact best_searchD p n k (d + 1)
    | some m =>
      simp only [Option.map_some]
      refine bestOf_split ltD [] _ (d, m) (by simp) fun y hy => ?_
      obtain ⟨x, hx, hy⟩ := List.mem_filterMap.1 hy
      obtain ⟨m', _, rfl⟩ := Option.map_eq_some_iff.1 hy
      have := chF_ge _ _ _ hx
      simp only [ltD, decide_eq_false_iff_not]; omega
/-- Whether a stop helps. -/
def okS (ps rs : List Pr) (h : Nat → Int → Pr) (d n : Int) : Bool := enterB ps rs h d true && enterB ps rs (stayH h (stayS d d n)) 0 true
theorem stay_zero (h : Nat → Int → Pr) (d : Int) : stayH h (stayS d d (0 : Nat)) = h := by
  funext p x
  simp [stayH, aftP, stayS, allF, nowF, loadF]
theorem stay_next (h : Nat → Int → Pr) (d : Int) (n : Nat) : stayH (stayH h (stayS d d (n : Nat))) (stayS d d 1) = stayH h (stayS d d ((n + 1 : Nat) : Int)) := by
  funext p x
  simp only [stayH, aftP, stayS, Int.sub_self, Int.toNat_zero, allF, nowF, Int.toNat_natCast, show (1 : Int).toNat = 1 from rfl]
  rw [loadF_add, loadF_add]
theorem stopFrom_first (ps rs : List Pr) (h : Nat → Int → Pr) (d : Int) : ∀ (n i : Nat), stopFrom ps rs d true n (stayH h (stayS d d (i : Nat))) i = firstFrom (fun m => enterB ps rs (stayH h (stayS d d m)) 0 true) n ((i + 1 : Nat) : Int)
  | 0, i => rfl
  | n + 1, i => by
    unfold stopFrom firstFrom
    rw [stay_next]
    have := stopFrom_first ps rs h d n (i + 1)
    push_cast at this ⊢
    rw [this]
theorem stopAt_first (ps rs : List Pr) (h : Nat → Int → Pr) (d : Int) : stopAt ps rs (h, true) d = firstFrom (okS ps rs h d) 30 1 := by
  unfold stopAt
  cases he : enterB ps rs h d true
  · rw [if_neg (by simp)]
    exact (firstFrom_all (fun x => by simp [okS, he]) 30 1).symm
  · rw [if_pos rfl]
    have := stopFrom_first ps rs h d 30 0
    rw [stay_zero] at this
    have e : okS ps rs h d = fun m => enterB ps rs (stayH h (stayS d d m)) 0 true := by funext m; simp [okS, he]
    rw [e]; exact this
theorem stopsL_false (ps rs : List Pr) (h : Nat → Int → Pr) (ds : List Int) : stopsL ps rs (h, false) ds = [] := by
  unfold stopsL
  rw [List.filterMap_eq_nil_iff]
  intro d _
  simp [stopAt, enterB_false]
theorem stopsL_true (ps rs : List Pr) (h : Nat → Int → Pr) (ds : List Int) : stopsL ps rs (h, true) ds = ds.filterMap fun d => (firstFrom (okS ps rs h d) 30 1).map fun n => (d, n) := by
  unfold stopsL
  exact filterMap_same fun d _ => by rw [stopAt_first]
/-- What the specification's Stop returns. -/
def refStR (ps rs : List Pr) (ss : List Int) (a : FS) : Option Pr := if a.2 then (if enterB ps rs a.1 0 true then some (0, 0) else searchN (okS ps rs a.1) ss 30 1) else none
theorem stop_search (ps rs : List Pr) (ss : List Int) (a : FS) : (if enterB ps rs a.1 0 a.2 then some (0, 0) else bestOf ltM (stopsL ps rs a ss)) = refStR ps rs ss a := by
  obtain ⟨h, k⟩ := a
  unfold refStR
  cases k
  · simp [enterB_false, stopsL_false, bestOf]
  · simp only [stopsL_true, best_searchN, if_true]
theorem cham_search (ps rs : List Pr) (h : Nat → Int → Pr) : bestOf ltD (stopsL ps rs (h, true) (chL 40)) = searchD (okS ps rs h) 30 40 1 := by
  rw [stopsL_true, chL_eq, best_searchD]
end Go.Proofs
namespace Go.Proofs
open Go.RowKit Go.Shelf Gas
attribute [local go_sem ↓] Go.wp_at_zero Go.wp_at_succ

theorem stayS_sok {d n : Int} (hd : 0 ≤ d ∧ d ≤ 40) (hn : 0 ≤ n ∧ n ≤ 200) : SOk (stayS d d n) := ⟨by simp only [stayS]; omega, by simp only [stayS]; omega, by simp only [stayS]; omega⟩
theorem okS_over {ps rs : List Pr} {h : Nat → Int → Pr} (hr : rs.all rateB = true) (hpl : ps.length = rs.length) (d n : Int) : okS ps rs h d n = (decide (overL ps d (bodiesL rs h) < 0) && decide (overL ps 0 (bodiesL rs (stayH h (stayS d d n))) < 0)) := by
  unfold okS
  rw [over_enter hr hpl, over_enter hr hpl]
/-- What bodies in memory are for. -/
structure Bds (t : Tm) (w : World) (m : Nat) : Prop where
  over : ∀ (h : Nat → Int → Pr), FolOk t h → ∀ (d : Int), 0 ≤ d ∧ d ≤ 100 → ∀ (A : Option Addr) (c : Nat) (W : World), Below w.heap.size w W → SlOf Bd.cs 4 W A m (bodiesL t.rs h) →
    Calls Tryz.prog 97 #[t.tab, .slice A m c, .int .i64 d] W fun e w' => e = .returned (.int .i64 (overL t.ps d (bodiesL t.rs h))) ∧ Below W.heap.size W w'
  after : ∀ (h : Nat → Int → Pr), FolOk t h → ∀ (s : St), SOk s → ∀ (A : Option Addr) (c : Nat) (W : World), SlOf Bd.cs 4 W A m (bodiesL t.rs h) →
    Calls Tryz.prog 89 #[.slice A m c, s.val] W fun e w' => ∃ v, e = .returned v ∧ RSl m (bodiesL t.rs (stayH h s)) v w' ∧ Below W.heap.size W w'
theorem Bds.mk' (t : Tm) (ht : t.Ok) (htp : t.rs.length ≤ 100) (w : World) (hi : t.In w) {m : Nat} (hm : (bodiesL t.rs h0).length = m) : Bds t w m := by
  have hrl : t.rs.length = t.pn := by rw [hi.rs.1]; exact ht.np
  have hpl : t.ps.length = t.rs.length := by rw [hi.ps.1, hrl]
  have hbl := bodiesTo_len ht.rates h0 t.rs.length (Nat.le_refl _)
  have hm2 : m ≤ 1300 := by rw [← hm]; unfold bodiesL; omega
  refine ⟨fun h ho d hd A c W hb hs => ?_, fun h ho s hs A c W hsl => ?_⟩
  · exact over_c t.pA t.sA A t.pn t.pc t.sn t.sc m c t.ps (bodiesL t.rs h) d hd (by omega) ht.small.p ht.parts (by rw [← hrl, ← hpl]; exact bodiesL_ok ho hpl) W (hi.ps.keep hb) hs
  · refine (refAfter_s A m c (bodiesL t.rs h) s hs t.ps.length (by omega) (bodiesL_ok ho hpl) W hsl).mono fun e w' ⟨v, h1, h2, h3⟩ => ⟨v, h1, ?_, h3⟩
    rw [map_bodiesL] at h2
    obtain ⟨A', c', e1, hs', _⟩ := owns_sl rfl h2
    have e2 : (bodiesL t.rs (stayH h s)).length = m := (bodiesL_len t.rs _ h0).trans hm
    rw [e2] at e1 hs'
    exact ⟨A', c', e1, hs'⟩

set_option maxHeartbeats 2000000 in
set_option maxRecDepth 50000 in
theorem refHelps_c (t : Tm) (h : Nat → Int → Pr) (ho : FolOk t h) (hpl : t.ps.length = t.rs.length) (d n : Int) (hd : 0 ≤ d ∧ d ≤ 40) (hn : 0 ≤ n ∧ n ≤ 200) (m : Nat) (A : Option Addr) (c : Nat) (w : World) (hB : Bds t w m) (hx : SlOf Bd.cs 4 w A m (bodiesL t.rs h)) :
    Calls Tryz.prog 110 #[t.tab, .slice A m c, .agg #[.int .i64 d, .int .i64 n]] w fun e w' => e = .returned (.bool (okS t.ps t.rs h d n)) ∧ Below w.heap.size w w' := by
  rw [okS_over ho.tok.rates hpl]
  have hs := stayS_sok hd hn
  have HOv := Lib.hid fun (W : World) (hb : Below w.heap.size w W) => hB.over h ho d (by omega) A c W hb (hx.keep hb)
  have HAf := Lib.hid fun (W : World) (hb : Below w.heap.size w W) => hB.after h ho (stayS d d n) hs A c W (hx.keep hb)
  have HOv2 := Lib.hid fun (A' : Option Addr) (c' : Nat) (W : World) (hb : Below w.heap.size w W) (hs' : SlOf Bd.cs 4 W A' m (bodiesL t.rs (stayH h (stayS d d n)))) => hB.over _ (ho.stay hs) 0 (by omega) A' c' W hb hs'
  have HJ := Lib.hid fun (x : Int) (W : World) => refJust_c x W
  generalize overL t.ps 0 (bodiesL t.rs (stayH h (stayS d d n))) = x2 at *
  generalize bodiesL t.rs (stayH h (stayS d d n)) = bs2 at *
  generalize overL t.ps d (bodiesL t.rs h) = x1 at *
  clear hB hx ho hpl hs
  have B0 := Lib.hid (newB (newB (Below.refl w.heap.size w) (.cells #[.slice t.pA t.pn t.pc, .slice t.sA t.sn t.sc] 50)) (.cells #[.int .i64 d, .int .i64 n] 100))
  have T0 := Lib.hid ((Has.new w 50 #[.slice t.pA t.pn t.pc, .slice t.sA t.sn t.sc]).alloc (.cells #[.int .i64 d, .int .i64 n] 100))
  have N0 := Lib.hid (Has.new' (w.alloc (.cells #[.slice t.pA t.pn t.pc, .slice t.sA t.sn t.sc] 50)) 100 #[.int .i64 d, .int .i64 n] (g := w.heap.size + 1) (by simp))
  obtain ⟨pA, sA, rA, pn, pc, sn, sc, rn, rc, ps, ss, rs⟩ := t
  simp only [Tm.tab, stayS, St.val] at *
  by_cases h1 : x1 < 0
  · rw [decide_eq_true h1, Bool.true_and]
    go_enter Tryz.func110, Tryz.ntmps110
    go_wp2
    generalize (w.alloc (.cells #[.slice pA pn pc, .slice sA sn sc] 50)).alloc (.cells #[.int .i64 d, .int .i64 n] 100) = W1 at *
    apply wp_loose 21 (.v (.agg #[.slice pA pn pc, .slice sA sn sc]) :: .v (.slice A m c) :: .v (.pointer (some ⟨w.heap.size + 1, 0, none⟩)) :: .v (.int .i64 d) :: .v (.int .i64 x1) :: .v (.bool true) :: .v (.bool true) :: .v (.agg #[.slice pA pn pc, .slice sA sn sc]) :: .v (.slice A m c) :: .v (.pointer (some ⟨w.heap.size + 1, 0, none⟩)) :: .v (.int .i64 d) :: .v (.agg #[.int .i64 d, .int .i64 d]) :: .v (.pointer (some ⟨w.heap.size + 1, 1, none⟩)) :: .v (.int .i64 n) :: .v (.agg #[.int .i64 n, .int .i64 n]) :: .v (.agg #[.int .i64 d, .int .i64 d, .int .i64 n, .int .i64 n]) :: .r (RSl m bs2) :: .v (.int .i64 x2) :: .v (.bool (decide (x2 < 0))) :: .v (.bool (decide (x2 < 0))) :: .v (.bool (decide (x2 < 0))) :: []) (by kernel_rfl) (by kernel_rfl) (by kernel_rfl) (by decide) rfl
    intro K hK
    refine OblS.row rfl 50 (.tmp 3) rfl w.heap.size (by kernel_rfl) 50 _ _ T0.out Tryz.underlying50 rfl (by kernel_rfl) ?_
    refine OblS.val (by kernel_rfl) (fun w' _ _ => (by kernel_rfl)) ?_
    refine OblS.val (by kernel_rfl) (fun w' _ _ => (by kernel_rfl)) ?_
    refine OblS.val (by kernel_rfl) (fun w' hb _ => ?_) ?_
    · have := (N0.out.after hb).cell; go_simp
    refine OblS.call 97 (by kernel_rfl) (fun w' hb hH => ?_) ?_
    · exact ⟨#[.agg #[.slice pA pn pc, .slice sA sn sc], .slice A m c, .int .i64 d], (by kernel_rfl), HOv.out w' (nextB B0.out hb)⟩
    refine OblS.val (by kernel_rfl) (fun w' _ _ => ?_) ?_
    · go_simp
    refine OblS.val (by kernel_rfl) (fun w' _ _ => (by kernel_rfl)) ?_
    refine OblS.rowG (by kernel_rfl) 50 (.tmp 3) rfl w.heap.size (by kernel_rfl) 50 _ _ T0.out Tryz.underlying50 rfl (by kernel_rfl) ?_
    refine OblS.val (by kernel_rfl) (fun w' _ _ => (by kernel_rfl)) ?_
    refine OblS.val (by kernel_rfl) (fun w' _ _ => (by kernel_rfl)) ?_
    refine OblS.val (by kernel_rfl) (fun w' hb _ => ?_) ?_
    · have := (N0.out.after hb).cell; go_simp
    refine OblS.call 102 (by kernel_rfl) (fun w' hb hH => ?_) ?_
    · exact ⟨#[.int .i64 d], (by kernel_rfl), HJ.out d w'⟩
    refine OblS.val (by kernel_rfl) (fun w' _ _ => (by kernel_rfl)) ?_
    refine OblS.val (by kernel_rfl) (fun w' hb _ => ?_) ?_
    · have := (N0.out.after hb).cell; go_simp
    refine OblS.call 102 (by kernel_rfl) (fun w' hb hH => ?_) ?_
    · exact ⟨#[.int .i64 n], (by kernel_rfl), HJ.out n w'⟩
    refine OblS.val (by kernel_rfl) (fun w' _ _ => (by kernel_rfl)) ?_
    refine OblS.callR 89 RSl.stable (by kernel_rfl) (fun w' hb hH => ⟨#[.slice A m c, .agg #[.int .i64 d, .int .i64 d, .int .i64 n, .int .i64 n]], (by kernel_rfl), HAf.out w' (nextB B0.out hb)⟩) ?_
    intro v16
    refine OblS.call 97 (by kernel_rfl) (fun w' hb hH => ?_) ?_
    · obtain ⟨A', c', rfl, hsl⟩ := hH _ (List.mem_cons_self ..) (by kernel_rfl)
      exact ⟨#[.agg #[.slice pA pn pc, .slice sA sn sc], .slice A' m c', .int .i64 0], (by kernel_rfl), HOv2.out A' c' w' (nextB B0.out hb) hsl⟩
    refine OblS.val (by kernel_rfl) (fun w' _ _ => ?_) ?_
    · go_simp
    refine OblS.val (by kernel_rfl) (fun w' _ _ => (by kernel_rfl)) ?_
    refine OblS.val (by kernel_rfl) (fun w' _ _ => (by kernel_rfl)) ?_
    apply OblS.nil
    apply hK
    intro w5 hb hH
    have HB5 := Lib.hid (nextB B0.out hb)
    clear hH hK K hb
    simp only [Act.put, List.setIfInBounds_toArray, List.set_cons_zero, List.set_cons_succ, List.drop_succ_cons, List.drop_zero]
    go_wp2
    exact bodyPost_ret (results_tmp rfl _ _ _) rfl ⟨rfl, HB5.out⟩
  · rw [decide_eq_false h1, Bool.false_and]
    go_enter Tryz.func110, Tryz.ntmps110
    go_wp2
    generalize (w.alloc (.cells #[.slice pA pn pc, .slice sA sn sc] 50)).alloc (.cells #[.int .i64 d, .int .i64 n] 100) = W1 at *
    apply wp_loose 21 (.v (.agg #[.slice pA pn pc, .slice sA sn sc]) :: .v (.slice A m c) :: .v (.pointer (some ⟨w.heap.size + 1, 0, none⟩)) :: .v (.int .i64 d) :: .v (.int .i64 x1) :: .v (.bool false) :: .v (.bool false) :: .v undef :: .v undef :: .v undef :: .v undef :: .v undef :: .v undef :: .v undef :: .v undef :: .v undef :: .v undef :: .v undef :: .v undef :: .v (.bool false) :: .v (.bool false) :: []) (by kernel_rfl) (by kernel_rfl) (by kernel_rfl) (by decide) rfl
    intro K hK
    refine OblS.row rfl 50 (.tmp 3) rfl w.heap.size (by kernel_rfl) 50 _ _ T0.out Tryz.underlying50 rfl (by kernel_rfl) ?_
    refine OblS.val (by kernel_rfl) (fun w' _ _ => (by kernel_rfl)) ?_
    refine OblS.val (by kernel_rfl) (fun w' _ _ => (by kernel_rfl)) ?_
    refine OblS.val (by kernel_rfl) (fun w' hb _ => ?_) ?_
    · have := (N0.out.after hb).cell; go_simp
    refine OblS.call 97 (by kernel_rfl) (fun w' hb hH => ?_) ?_
    · exact ⟨#[.agg #[.slice pA pn pc, .slice sA sn sc], .slice A m c, .int .i64 d], (by kernel_rfl), HOv.out w' (nextB B0.out hb)⟩
    refine OblS.val (by kernel_rfl) (fun w' _ _ => ?_) ?_
    · go_simp
    refine OblS.val (by kernel_rfl) (fun w' _ _ => (by kernel_rfl)) ?_
    iterate 12 refine OblS.skip (by kernel_rfl) ?_
    refine OblS.val (by kernel_rfl) (fun w' _ _ => (by kernel_rfl)) ?_
    refine OblS.val (by kernel_rfl) (fun w' _ _ => (by kernel_rfl)) ?_
    apply OblS.nil
    apply hK
    intro w5 hb hH
    have HB5 := Lib.hid (nextB B0.out hb)
    clear hH hK K hb
    simp only [Act.put, List.setIfInBounds_toArray, List.set_cons_zero, List.set_cons_succ, List.drop_succ_cons, List.drop_zero]
    go_wp2
    exact bodyPost_ret (results_tmp rfl _ _ _) rfl ⟨rfl, HB5.out⟩
end Go.Proofs
namespace Go.Proofs
open Go.RowKit Go.Shelf Gas
attribute [local go_sem ↓] Go.wp_at_zero Go.wp_at_succ

theorem folS_snoc (ps rs : List Pr) (s : St) : ∀ (l : List St) (a : FS), folS ps rs a (l ++ [s]) = (stayH (folS ps rs a l).1 s, enterB ps rs (folS ps rs a l).1 s.dl (folS ps rs a l).2)
  | [], a => rfl
  | x :: l, a => by
    show folS ps rs _ (l ++ [s]) = _
    rw [folS_snoc ps rs s l]; rfl
def RTm (n : Nat) (ys : List Bd) (v : Value) (w : World) : Prop := ∃ A c m p, v = .tuple #[.slice A n c, .int .i64 m, .int .i64 p] ∧ SlOf Bd.cs 4 w A n ys
theorem RTm.stable {n : Nat} {ys : List Bd} : ∀ v w w', RTm n ys v w → Below w.heap.size w w' → RTm n ys v w' := fun _ _ _ ⟨A, c, m, p, e, h⟩ hb => ⟨A, c, m, p, e, h.keep hb⟩
def RSt (n : Nat) (ys : List St) (v : Value) (w : World) : Prop := ∃ A c, v = .slice A n c ∧ SlOf St.cs 4 w A n ys
theorem RSt.stable {n : Nat} {ys : List St} : ∀ v w w', RSt n ys v w → Below w.heap.size w w' → RSt n ys v w' := fun _ _ _ ⟨A, c, e, h⟩ hb => ⟨A, c, e, h.keep hb⟩
def IsI (v : Value) (_ : World) : Prop := ∃ m : Int, v = .int .i64 m
theorem IsI.stable : ∀ v w w', IsI v w → Below w.heap.size w w' → IsI v w' := fun _ _ _ h _ => h

set_option maxHeartbeats 2000000 in
set_option maxRecDepth 50000 in
theorem refDelayed_c (t : Tm) (ht : t.Ok) (hrn : t.rs.length ≤ 100) (A : Option Addr) (n c : Nat) (dive : List St) (hA : A = none → c = 0) (hn : n ≤ 900) (hds : ∀ s ∈ dive, SOk s) (l g : Int) (hs : SOk (topS l g)) (w : World) (hi : t.In w) (hd : SlOf St.cs 4 w A n dive) {m : Nat} (hm : (bodiesL t.rs h0).length = m) :
    Calls Tryz.prog 109 #[t.tab, t.man, .slice A n c, .agg #[.int .i64 l, .int .i64 g]] w fun e w' => ∃ v, e = .returned v ∧ RSl m (bodiesL t.rs (stayH (folS t.ps t.rs (h0, true) dive).1 (topS l g))) v w' ∧ Below w.heap.size w w' := by
  have hpl : t.ps.length = t.rs.length := by rw [hi.ps.1, hi.rs.1]; exact ht.np.symm
  have hbl := bodiesTo_len ht.rates h0 t.rs.length (Nat.le_refl _)
  have hbl2 : (bodiesL t.rs h0).length ≤ 1300 := by unfold bodiesL; omega
  have hpn : t.ps.length = t.pn := hi.ps.1
  have hds2 : ∀ s ∈ dive ++ [topS l g], SOk s := fun s h => by
    rcases List.mem_append.1 h with h | h
    · exact hds s h
    · simp at h; subst h; exact hs
  have HBe := Lib.hid fun (W : World) (hb : Below w.heap.size w W) => (refBegin_c t.rA t.rn t.rc t.rs ht.small.r ht.rates W (hi.rs.keep hb)).mono fun e x (⟨v, h1, h2, h3⟩ : OwnsBd W (bodiesL t.rs h0) e x) => (show ∃ v, e = Ending.returned v ∧ RSl m (bodiesL t.rs h0) v x ∧ Below W.heap.size W x from ⟨v, h1, (by obtain ⟨A', c', e1, hs, _⟩ := owns_sl rfl h2; rw [hm] at e1 hs; exact ⟨A', c', e1, hs⟩), h3⟩)
  have HMo := Lib.hid fun (W : World) (hb : Below w.heap.size w W) => (More_c A n c dive hA (by omega) 0 0 l g W (hd.keep hb)).mono fun e x ⟨g0, cap, h1, h2, h3⟩ => (show ∃ v, e = Ending.returned v ∧ RSt (n + 1) (dive ++ [topS l g]) v x ∧ Below W.heap.size W x from ⟨_, h1, ⟨_, _, rfl, h2⟩, h3⟩)
  have HFo := Lib.hid fun (W : World) (hb : Below w.heap.size w W) (A' D : Option Addr) (c' cd : Nat) (hsl : SlOf Bd.cs 4 W A' m (bodiesL t.rs h0)) (hdv : SlOf St.cs 4 W D (n + 1) (dive ++ [topS l g])) =>
    (refFollow_c t.pA t.sA A' D t.pn t.pc t.sn t.sc m c' (n + 1) cd t.ps (bodiesL t.rs h0) (dive ++ [topS l g]) (by omega) (by omega) ht.small.p ht.parts (by rw [← hpn]; exact bodiesL_ok (h0_ok ht) hpl) hds2 W (hi.ps.keep hb) hsl hdv).mono fun e x (⟨A2, c2, h1, h2, h3⟩ : IsFolR W _ e x) => (show ∃ v, e = Ending.returned v ∧ RTm m (bodiesL t.rs (stayH (folS t.ps t.rs (h0, true) dive).1 (topS l g))) v x ∧ Below W.heap.size W x from by
      have hf := (folR_fol ht.rates hpl (dive ++ [topS l g]) h0 true (-1) (-1) 0 (by omega) rfl).1
      rw [folS_snoc] at hf
      rw [hf] at h1 h2
      rw [(bodiesL_len t.rs _ h0).trans hm] at h1 h2
      exact ⟨_, h1, ⟨A2, c2, _, _, rfl, h2⟩, h3⟩)
  have HJ := Lib.hid fun (x : Int) (W : World) => refJust_c x W
  have B0 := Lib.hid (newB (newB (newB (Below.refl w.heap.size w) (.cells #[.slice t.pA t.pn t.pc, .slice t.sA t.sn t.sc] 50)) (.cells #[.slice t.rA t.rn t.rc] 53)) (.cells #[.int .i64 l, .int .i64 g] 24))
  have E0 := Lib.hid (Bx.start w t l g)
  generalize bodiesL t.rs (stayH (folS t.ps t.rs (h0, true) dive).1 (topS l g)) = bs2 at *
  generalize bodiesL t.rs h0 = bs at *
  generalize dive ++ [topS l g] = dive2 at *
  clear hi hd ht hpl hbl hbl2 hpn hm hds hs hds2
  obtain ⟨pA, sA, rA, pn, pc, sn, sc, rn, rc, ps, ss, rs⟩ := t
  simp only [Tm.tab, Tm.man] at *
  go_enter Tryz.func109, Tryz.ntmps109
  go_wp2
  generalize ((w.alloc (.cells #[.slice pA pn pc, .slice sA sn sc] 50)).alloc (.cells #[.slice rA rn rc] 53)).alloc (.cells #[.int .i64 l, .int .i64 g] 24) = W1 at *
  apply wp_loose 15 (.v (.agg #[.slice pA pn pc, .slice sA sn sc]) :: .v (.agg #[.slice rA rn rc]) :: .r (RSl m bs) :: .v (.slice A n c) :: .v (.agg #[.int .i64 0, .int .i64 0]) :: .v (.agg #[.int .i64 l, .int .i64 g]) :: .r (RSt (n + 1) dive2) :: .r (RTm m bs2) :: .r (RTm m bs2) :: .r (RSl m bs2) :: .r IsI :: .r IsI :: .r (RSl m bs2) :: .r IsI :: .r IsI :: []) (by kernel_rfl) (by kernel_rfl) (by kernel_rfl) (by decide) rfl
  intro K hK
  refine OblS.row rfl 50 (.tmp 4) rfl w.heap.size (by kernel_rfl) 50 _ _ E0.out.tab Tryz.underlying50 rfl (by kernel_rfl) ?_
  refine OblS.row rfl 53 (.tmp 5) rfl (w.heap.size + 1) (by kernel_rfl) 53 _ _ E0.out.man Tryz.underlying53 rfl (by kernel_rfl) ?_
  refine OblS.callR 87 RSl.stable (by kernel_rfl) (fun w' hb _ => ⟨#[.agg #[.slice rA rn rc]], (by kernel_rfl), HBe.out w' (nextB B0.out hb)⟩) ?_
  intro v2
  refine OblS.val (by kernel_rfl) (fun w' _ _ => (by kernel_rfl)) ?_
  refine OblS.call 102 (by kernel_rfl) (fun w' hb hH => ⟨#[.int .i64 0], (by kernel_rfl), HJ.out 0 w'⟩) ?_
  refine OblS.row rfl 24 (.tmp 7) rfl (w.heap.size + 1 + 1) (by kernel_rfl) 24 _ _ E0.out.sp Tryz.underlying24 rfl (by kernel_rfl) ?_
  refine OblS.callR 52 RSt.stable (by kernel_rfl) (fun w' hb _ => ⟨#[.slice A n c, .agg #[.int .i64 0, .int .i64 0], .agg #[.int .i64 l, .int .i64 g]], (by kernel_rfl), HMo.out w' (nextB B0.out hb)⟩) ?_
  intro v6
  refine OblS.callR 96 RTm.stable (by kernel_rfl) (fun w' hb hH => ?_) ?_
  · obtain ⟨D, cd, rfl, hdv⟩ := hH _ (List.mem_cons_self ..) (by kernel_rfl)
    obtain ⟨A', c', rfl, hsl⟩ := hH _ (List.mem_cons_of_mem _ (List.mem_cons_self ..)) (by kernel_rfl)
    exact ⟨#[.agg #[.slice pA pn pc, .slice sA sn sc], .slice A' m c', .slice D (n + 1) cd], (by kernel_rfl), HFo.out w' (nextB B0.out hb) A' D c' cd hsl hdv⟩
  intro v7
  refine OblS.run RTm.stable (by kernel_rfl) (fun w' hb hH => ?_) ?_
  · obtain ⟨A', c', x, y, rfl, hsl⟩ := hH _ (List.mem_cons_self ..) (by kernel_rfl)
    exact ⟨_, w', (by kernel_rfl), ⟨A', c', x, y, rfl, hsl⟩, Below.refl _ _⟩
  intro v8
  refine OblS.run RSl.stable (by kernel_rfl) (fun w' hb hH => ?_) ?_
  · obtain ⟨A', c', x, y, rfl, hsl⟩ := hH _ (List.mem_cons_self ..) (by kernel_rfl)
    exact ⟨_, w', (by kernel_rfl), ⟨A', c', rfl, hsl⟩, Below.refl _ _⟩
  intro v9
  refine OblS.run IsI.stable (by kernel_rfl) (fun w' hb hH => ?_) ?_
  · obtain ⟨A', c', x, y, rfl, hsl⟩ := hH _ (List.mem_cons_of_mem _ (List.mem_cons_self ..)) (by kernel_rfl)
    exact ⟨_, w', (by kernel_rfl), ⟨x, rfl⟩, Below.refl _ _⟩
  intro v10
  refine OblS.run IsI.stable (by kernel_rfl) (fun w' hb hH => ?_) ?_
  · obtain ⟨A', c', x, y, rfl, hsl⟩ := hH _ (List.mem_cons_of_mem _ (List.mem_cons_of_mem _ (List.mem_cons_self ..))) (by kernel_rfl)
    exact ⟨_, w', (by kernel_rfl), ⟨y, rfl⟩, Below.refl _ _⟩
  intro v11
  refine OblS.run RSl.stable (by kernel_rfl) (fun w' hb hH => ?_) ?_
  · obtain ⟨A', c', rfl, hsl⟩ := hH _ (List.mem_cons_of_mem _ (List.mem_cons_of_mem _ (List.mem_cons_self ..))) (by kernel_rfl)
    exact ⟨_, w', (by kernel_rfl), ⟨A', c', rfl, hsl⟩, Below.refl _ _⟩
  intro v12
  refine OblS.run IsI.stable (by kernel_rfl) (fun w' hb hH => ?_) ?_
  · obtain ⟨x, rfl⟩ := hH _ (List.mem_cons_of_mem _ (List.mem_cons_of_mem _ (List.mem_cons_self ..))) (by kernel_rfl)
    exact ⟨_, w', (by kernel_rfl), ⟨x, rfl⟩, Below.refl _ _⟩
  intro v13
  refine OblS.run IsI.stable (by kernel_rfl) (fun w' hb hH => ?_) ?_
  · obtain ⟨x, rfl⟩ := hH _ (List.mem_cons_of_mem _ (List.mem_cons_of_mem _ (List.mem_cons_self ..))) (by kernel_rfl)
    exact ⟨_, w', (by kernel_rfl), ⟨x, rfl⟩, Below.refl _ _⟩
  intro v14
  apply OblS.nil
  apply hK
  intro w5 hb hH
  have h12 := hH _ (List.mem_cons_of_mem _ (List.mem_cons_of_mem _ (List.mem_cons_self ..)))
  obtain ⟨A9, c9, rfl, hsl9⟩ := h12
  have HS9 := Lib.hid hsl9; have HB5 := Lib.hid (nextB B0.out hb)
  clear hH hK K hsl9 hb
  simp only [Act.put, List.setIfInBounds_toArray, List.set_cons_zero, List.set_cons_succ, List.drop_succ_cons, List.drop_zero]
  go_wp2
  exact bodyPost_ret (results_tmp rfl _ _ _) rfl ⟨_, rfl, ⟨A9, c9, rfl, HS9.out⟩, HB5.out⟩

/-- A stop and whether there is one, as a result. -/
def optS (o : Option Pr) : Value := .tuple #[.agg #[.int .i64 (o.getD (0, 0)).1, .int .i64 (o.getD (0, 0)).2], .bool o.isSome]
theorem firstFrom_step (p : Int → Bool) (n : Nat) (d : Int) : firstFrom p (n + 1) d = if p d then some d else firstFrom p n (d + 1) := rfl
theorem searchD_step (p : Int → Int → Bool) (j k : Nat) (d : Int) : searchD p j (k + 1) d = match firstFrom (p d) j 1 with | some m => some (d, m) | none => searchD p j k (d + 1) := rfl

set_option maxHeartbeats 2000000 in
set_option maxRecDepth 50000 in
theorem refChamber_c (t : Tm) (ht : t.Ok) (hrn : t.rs.length ≤ 100) (A : Option Addr) (n c : Nat) (dive : List St) (hA : A = none → c = 0) (hn : n ≤ 900) (hds : ∀ s ∈ dive, SOk s) (l g : Int) (hs : SOk (topS l g)) (w : World) (hi : t.In w) (hd : SlOf St.cs 4 w A n dive) :
    Calls Tryz.prog 57 #[t.tab, t.man, .slice A n c, .agg #[.int .i64 l, .int .i64 g]] w fun e w' => e = .returned (optS (searchD (okS t.ps t.rs (stayH (folS t.ps t.rs (h0, true) dive).1 (topS l g))) 30 40 1)) ∧ Below w.heap.size w w' := by
  have hpl : t.ps.length = t.rs.length := by rw [hi.ps.1, hi.rs.1]; exact ht.np.symm
  obtain ⟨m, hm⟩ : ∃ m, (bodiesL t.rs h0).length = m := ⟨_, rfl⟩
  have HDe := Lib.hid fun (W : World) (hb : Below w.heap.size w W) => refDelayed_c t ht hrn A n c dive hA hn hds l g hs W (hi.keep hb) (hd.keep hb) hm
  have ho : FolOk t (stayH (folS t.ps t.rs (h0, true) dive).1 (topS l g)) := (FolOk.folS dive (h0, true) (h0_ok ht) hds).stay hs
  have HHe := Lib.hid fun (d j : Int) (hdd : 0 ≤ d ∧ d ≤ 40) (hj : 0 ≤ j ∧ j ≤ 200) (A' : Option Addr) (c' : Nat) (W : World) (hb : Below w.heap.size w W) (hsl : SlOf Bd.cs 4 W A' m (bodiesL t.rs (stayH (folS t.ps t.rs (h0, true) dive).1 (topS l g)))) =>
    refHelps_c t _ ho hpl d j hdd hj m A' c' W (Bds.mk' t ht hrn W (hi.keep hb) hm) hsl
  generalize okS t.ps t.rs (stayH (folS t.ps t.rs (h0, true) dive).1 (topS l g)) = P at *
  generalize bodiesL t.rs (stayH (folS t.ps t.rs (h0, true) dive).1 (topS l g)) = bs at *
  clear ho hi hd ht hpl hm hds hs
  have E0 := Lib.hid (Bx.start w t l g)
  obtain ⟨pA, sA, rA, pn, pc, sn, sc, rn, rc, ps, ss, rs⟩ := t
  simp only [Tm.tab, Tm.man] at *
  generalize hSO : searchD P 30 40 1 = so at *
  have HSO := Lib.hid hSO
  clear hSO
  go_enter Tryz.func57, Tryz.ntmps57
  have E1 := Lib.hid (E0.out.keep (newB (Below.refl _ _) (.cells #[.int .i64 0, .int .i64 0] 100)))
  have Z1 := Lib.hid (Has.new' (((w.alloc (.cells #[.slice pA pn pc, .slice sA sn sc] 50)).alloc (.cells #[.slice rA rn rc] 53)).alloc (.cells #[.int .i64 l, .int .i64 g] 24)) 100 #[.int .i64 0, .int .i64 0] (g := w.heap.size + 1 + 1 + 1) (by simp))
  go_wp2_with (first
    | (refine wpList_load_row rfl 50 _ rfl w.heap.size rfl 50 _ (0, 0) _ E1.out.tab Tryz.underlying50 rfl (by kernel_rfl) ?_)
    | (refine wpList_load_row rfl 53 _ rfl (w.heap.size + 1) rfl 53 _ (0, 0) _ E1.out.man Tryz.underlying53 rfl (by kernel_rfl) ?_)
    | (refine wpList_load_row rfl 24 _ rfl (w.heap.size + 1 + 1) rfl 24 _ (0, 0) _ E1.out.sp Tryz.underlying24 rfl (by kernel_rfl) ?_)
    | (go_at_call 109; refine (HDe.out _ E1.out.below).mono ?_; rintro e w2 ⟨v2, rfl, ⟨A2, c2, rfl, hs2⟩, hb2⟩; have E2 := Lib.hid (E1.out.keep hb2); have Z2 := Lib.hid (Z1.out.after hb2); have HS2 := Lib.hid hs2; clear hb2 hs2))
  clear E0 E1 Z1 HDe
  go_loopw [11] (fun x wr => ∃ k : Nat, k ≤ 40 ∧ x = .int .i64 ((k : Int) + 1) ∧ Bx w ⟨pA, sA, rA, pn, pc, sn, sc, rn, rc, ps, ss, rs⟩ l g wr ∧ Has wr (w.heap.size + 1 + 1 + 1) 100 #[.int .i64 0, .int .i64 0] ∧ SlOf Bd.cs 4 wr A2 m bs ∧ so = searchD P 30 (40 - k) ((k : Int) + 1)) (fun x _ => 41 - (intOf x).toNat)
  case atStart => exact ⟨0, by omega, rfl, E2.out, Z2.out, HS2.out, HSO.out.symm⟩
  case round =>
    obtain ⟨k, hk, rfl, hE, hZ, hS, hQ⟩ := hrel
    have EE := Lib.hid hE; have HZ := Lib.hid hZ; have HS := Lib.hid hS; have HQ := Lib.hid hQ
    clear hE hZ hS hQ
    by_cases hkn : k < 40
    · have hle : (k : Int) + 1 ≤ 40 := by omega
      have HQ1 := Lib.hid (show so = match firstFrom (P ((k : Int) + 1)) 30 1 with | some m => some ((k : Int) + 1, m) | none => searchD P 30 (40 - (k + 1)) (((k + 1 : Nat) : Int) + 1) by
        rw [HQ.out, show 40 - k = (40 - (k + 1)) + 1 by omega, searchD_step]; push_cast; rfl)
      obtain ⟨wo, rfl⟩ : ∃ wo : World, wo = wr := ⟨_, rfl⟩
      go_wp2
      go_loopw [12] (fun x wr => ∃ j : Nat, j ≤ 30 ∧ x = .int .i64 ((j : Int) + 1) ∧ Bx w ⟨pA, sA, rA, pn, pc, sn, sc, rn, rc, ps, ss, rs⟩ l g wr ∧ Has wr (w.heap.size + 1 + 1 + 1) 100 #[.int .i64 0, .int .i64 0] ∧ SlOf Bd.cs 4 wr A2 m bs ∧ firstFrom (P ((k : Int) + 1)) 30 1 = firstFrom (P ((k : Int) + 1)) (30 - j) ((j : Int) + 1)) (fun x _ => 31 - (intOf x).toNat)
      case atStart => exact ⟨0, by omega, rfl, EE.out, HZ.out, HS.out, rfl⟩
      case round =>
        obtain ⟨j, hj, rfl, hE, hZ, hS, hF⟩ := hrel
        have EQ := Lib.hid hE; have HZq := Lib.hid hZ; have HSq := Lib.hid hS; have HF := Lib.hid hF
        clear hE hZ hS hF
        by_cases hjn : j < 30
        · have hlj : (j : Int) + 1 ≤ 30 := by omega
          have HFs := Lib.hid (show firstFrom (P ((k : Int) + 1)) 30 1 = if P ((k : Int) + 1) ((j : Int) + 1) then some ((j : Int) + 1) else firstFrom (P ((k : Int) + 1)) (30 - (j + 1)) (((j + 1 : Nat) : Int) + 1) by
            rw [HF.out, show 30 - j = (30 - (j + 1)) + 1 by omega, firstFrom_step]; push_cast; rfl)
          have bb := (newB (Below.refl wr.heap.size wr) (.cells #[.int .i64 0, .int .i64 0] 100))
          have bs1 := rowB bb (Nat.le_refl _) #[.int .i64 ((k : Int) + 1), .int .i64 ((j : Int) + 1)]
          have E3 := Lib.hid (EQ.out.keep bs1); have Z3 := Lib.hid (HZq.out.after bs1); have S3 := Lib.hid (HSq.out.keep bs1)
          have N3 := Lib.hid (box_has (W := wr) #[.int .i64 0, .int .i64 0] #[.int .i64 ((k : Int) + 1), .int .i64 ((j : Int) + 1)] 100)
          have hzq := HZq.out.lt
          clear bb bs1
          cases hP : P ((k : Int) + 1) ((j : Int) + 1)
          all_goals
            have HP := Lib.hid hP
            have HH2 := Lib.hid fun (W : World) (hb : Below w.heap.size w W) (hsl : SlOf Bd.cs 4 W A2 m bs) => HHe.out ((k : Int) + 1) ((j : Int) + 1) (by omega) (by omega) A2 c2 W hb hsl
            rw [hP] at HH2
            clear hP
            go_wp2_with (first
              | (refine wpList_store_all rfl 100 _ _ rfl wr.heap.size rfl _ rfl 100 _ (Has.new wr 100 _) (by kernel_rfl) rfl (by simp [Value.oneCell']) ?_)
              | (refine wpList_load_row rfl 50 _ rfl w.heap.size rfl 50 _ (0, 0) _ E3.out.tab Tryz.underlying50 rfl (by kernel_rfl) ?_)
              | (refine wpList_load_row rfl 100 _ rfl wr.heap.size rfl 100 _ (0, 0) _ N3.out Tryz.underlying100 rfl (by kernel_rfl) ?_)
              | (go_at_call 110; refine (HH2.out _ E3.out.below S3.out).mono ?_; rintro e w4 ⟨rfl, hb4⟩; have E4 := Lib.hid (E3.out.keep hb4); have Z4 := Lib.hid (Z3.out.after hb4); have S4 := Lib.hid (S3.out.keep hb4); have N4 := Lib.hid (N3.out.after hb4); clear hb4)
              | (refine wpList_load_row rfl 100 _ rfl wr.heap.size rfl 100 _ (0, 0) _ N4.out Tryz.underlying100 rfl (by kernel_rfl) ?_)
              | (refine wpList_store_all rfl 100 _ _ rfl (w.heap.size + 1 + 1 + 1) rfl _ rfl 100 _ Z4.out (by kernel_rfl) rfl (by simp [Value.oneCell']) ?_))
          · go_roundw
            case rel => exact ⟨j + 1, by omega, by go_num, E4.out, Z4.out, S4.out, by rw [HFs.out, HP.out]; rfl⟩
            case measure => simp [intOf]; omega
          · have HR := Lib.hid (show so = some ((k : Int) + 1, (j : Int) + 1) by rw [HQ1.out, HFs.out, HP.out]; rfl)
            refine bodyPost_ret (results_row_tmp Tryz.results57 _ _ (w.heap.size + 1 + 1 + 1) 100 _ (0, 0) _ rfl (Z4.out.setRow _) Tryz.underlying100 rfl (by kernel_rfl)) rfl ⟨?_, rowB E4.out.below (by omega) _⟩
            rw [HR.out]; rfl
        · have hje : j = 30 := by omega
          subst hje
          have hnj : ¬ ((30 : Nat) : Int) + 1 ≤ 30 := by omega
          have HN := Lib.hid (show so = searchD P 30 (40 - (k + 1)) (((k + 1 : Nat) : Int) + 1) by rw [HQ1.out, HF.out]; rfl)
          go_wp2
          go_roundw
          case rel => exact ⟨k + 1, by omega, by go_num, EQ.out, HZq.out, HSq.out, HN.out⟩
          case measure => simp [intOf]; omega
    · have hke : k = 40 := by omega
      subst hke
      have HN := Lib.hid (show so = none by rw [HQ.out]; rfl)
      go_wp2_with (refine wpList_store_all rfl 100 _ _ rfl (w.heap.size + 1 + 1 + 1) rfl _ rfl 100 _ HZ.out (by kernel_rfl) rfl (by simp [Value.oneCell']) ?_)
      refine bodyPost_ret (results_row_tmp Tryz.results57 _ _ (w.heap.size + 1 + 1 + 1) 100 _ (0, 0) _ rfl (HZ.out.setRow _) Tryz.underlying100 rfl (by kernel_rfl)) rfl ⟨?_, rowB EE.out.below (by omega) _⟩
      rw [HN.out]; rfl
end Go.Proofs
namespace Go.Proofs
open Go.RowKit Go.Shelf Gas
attribute [local go_sem ↓] Go.wp_at_zero Go.wp_at_succ

theorem searchN_step (p : Int → Int → Bool) (ds : List Int) (k : Nat) (m : Int) : searchN p ds (k + 1) m = match ds.find? (fun d => p d m) with | some d => some (d, m) | none => searchN p ds k (m + 1) := rfl
theorem find_drop {p : Int → Bool} {ds : List Int} {i : Nat} (h : i < ds.length) : (ds.drop i).find? p = if p ds[i] then some ds[i] else (ds.drop (i + 1)).find? p := by
  rw [List.drop_eq_getElem_cons h, List.find?_cons]
  cases p ds[i] <;> rfl
/-- What is kept in the boxes of a search. -/
structure Bz (w : World) (t : Tm) (W : World) : Prop where
  below : Below w.heap.size w W
  tab : Has W w.heap.size 50 #[.slice t.pA t.pn t.pc, .slice t.sA t.sn t.sc]
  man : Has W (w.heap.size + 1) 53 #[.slice t.rA t.rn t.rc]
  res : Has W (w.heap.size + 1 + 1) 100 #[.int .i64 0, .int .i64 0]
theorem Bz.keep {w W W' : World} {t : Tm} (h : Bz w t W) (hb : Below W.heap.size W W') : Bz w t W' := ⟨nextB h.below hb, h.tab.after hb, h.man.after hb, h.res.after hb⟩
theorem Bz.start (w : World) (t : Tm) : Bz w t (((w.alloc (.cells #[.slice t.pA t.pn t.pc, .slice t.sA t.sn t.sc] 50)).alloc (.cells #[.slice t.rA t.rn t.rc] 53)).alloc (.cells #[.int .i64 0, .int .i64 0] 100)) :=
  ⟨newB (newB (newB (Below.refl _ _) _) _) _, ((Has.new w 50 _).alloc _).alloc _, (Has.new' _ 53 _ (by simp)).alloc _, Has.new' _ 100 _ (by simp)⟩

set_option maxHeartbeats 2000000 in
set_option maxRecDepth 50000 in
theorem refStop_c (t : Tm) (ht : t.Ok) (hss : SsOk t) (hrn : t.rs.length ≤ 100) (hsn : t.sn ≤ 1000) (A : Option Addr) (n c : Nat) (dive : List St) (hn : n ≤ 100000) (hds : ∀ s ∈ dive, SOk s) (w : World) (hi : t.In w) (hd : SlOf St.cs 4 w A n dive) :
    Calls Tryz.prog 55 #[t.tab, t.man, .slice A n c] w fun e w' => e = .returned (optS (refStR t.ps t.rs t.ss (folS t.ps t.rs (h0, true) dive))) ∧ Below w.heap.size w w' := by
  have hpl : t.ps.length = t.rs.length := by rw [hi.ps.1, hi.rs.1]; exact ht.np.symm
  have hpn : t.ps.length = t.pn := hi.ps.1
  have hbl := bodiesTo_len ht.rates h0 t.rs.length (Nat.le_refl _)
  have hbl2 : (bodiesL t.rs h0).length ≤ 1300 := by unfold bodiesL; omega
  obtain ⟨m, hm⟩ : ∃ m, (bodiesL t.rs h0).length = m := ⟨_, rfl⟩
  obtain ⟨h1, k1, ha⟩ : ∃ h1 k1, folS t.ps t.rs (h0, true) dive = (h1, k1) := ⟨_, _, rfl⟩
  have ho : FolOk t h1 := by
    have := FolOk.folS (t := t) dive (h0, true) (h0_ok ht) hds
    rw [ha] at this; exact this
  have hf := folR_fol ht.rates hpl dive h0 true (-1) (-1) 0 (by omega) rfl
  rw [ha] at hf
  obtain ⟨ys, mo, pa, hr⟩ : ∃ ys mo pa, folR t.ps (bodiesL t.rs h0) (-1) (-1) 0 dive = (ys, mo, pa) := ⟨_, _, _, rfl⟩
  rw [hr] at hf
  simp only at hf
  obtain ⟨hy, hk1⟩ := hf
  subst hy
  have HBe := Lib.hid fun (W : World) (hb : Below w.heap.size w W) => (refBegin_c t.rA t.rn t.rc t.rs ht.small.r ht.rates W (hi.rs.keep hb)).mono fun e x (⟨v, h1, h2, h3⟩ : OwnsBd W (bodiesL t.rs h0) e x) => (show ∃ v, e = Ending.returned v ∧ RSl m (bodiesL t.rs h0) v x ∧ Below W.heap.size W x from ⟨v, h1, (by obtain ⟨A', c', e1, hs, _⟩ := owns_sl rfl h2; rw [hm] at e1 hs; exact ⟨A', c', e1, hs⟩), h3⟩)
  have HFo := Lib.hid fun (W : World) (hb : Below w.heap.size w W) (A' : Option Addr) (c' : Nat) (hsl : SlOf Bd.cs 4 W A' m (bodiesL t.rs h0)) =>
    (refFollow_c t.pA t.sA A' A t.pn t.pc t.sn t.sc m c' n c t.ps (bodiesL t.rs h0) dive (by omega) (by omega) ht.small.p ht.parts (by rw [← hpn]; exact bodiesL_ok (h0_ok ht) hpl) hds W (hi.ps.keep hb) hsl (hd.keep hb)).mono fun e x (⟨A2, c2, h1', h2, h3⟩ : IsFolR W _ e x) => (show ∃ v, e = Ending.returned v ∧ RTu m (bodiesL t.rs h1) mo pa v x ∧ Below W.heap.size W x from by
      rw [hr] at h1' h2
      simp only at h1' h2
      rw [(bodiesL_len t.rs h1 h0).trans hm] at h1' h2
      exact ⟨_, h1', ⟨A2, c2, rfl, h2⟩, h3⟩)
  have HB := Lib.hid (Bds.mk' t ht hrn w hi hm)
  have HO := Lib.hid ho
  have HSs := Lib.hid hss
  have HJ := Lib.hid fun (x : Int) (W : World) => refJust_c x W
  have HSl := Lib.hid hi.ss
  have hsl := hi.ss.1
  have E0 := Lib.hid (Bz.start w t)
  have HOk := Lib.hid fun (d n : Int) => okS_over (h := h1) ht.rates hpl d n
  have HOv0 := Lib.hid fun (A' : Option Addr) (c' : Nat) (W : World) (hb : Below w.heap.size w W) (hs : SlOf Bd.cs 4 W A' m (bodiesL t.rs h1)) => HB.out.over h1 ho 0 (by omega) A' c' W hb hs
  have hen := over_enter (h := h1) (d := 0) ht.rates hpl
  rw [ha]
  unfold refStR
  rw [hen, hk1]
  generalize overL t.ps 0 (bodiesL t.rs h1) = x0 at *
  generalize hP : okS t.ps t.rs h1 = P at *
  generalize hSO : (if (decide (mo < 0)) = true then (if decide (x0 < 0) = true then some (0, 0) else searchN P t.ss 30 1) else none) = so
  have HSO := Lib.hid hSO
  clear hSO hP hen ha hr hk1 hi hd hpl hpn hbl hbl2 hm hds ht ho hss
  by_cases hmo : mo < 0
  · have hng : ¬ (mo ≥ 0) := by omega
    have HSO1 := HSO.out
    rw [decide_eq_true hmo, if_pos rfl] at HSO1
    by_cases hx0 : x0 < 0
    · rw [decide_eq_true hx0, if_pos rfl] at HSO1
      subst HSO1
      clear HSO HB HOk HSs HSl hsl HJ hsn HO
      obtain ⟨pA, sA, rA, pn, pc, sn, sc, rn, rc, ps, ss, rs⟩ := t
      simp only [Tm.tab, Tm.man] at *
      generalize bodiesL rs h0 = bs at *
      go_enter Tryz.func55, Tryz.ntmps55
      go_wp2
      generalize ((w.alloc (.cells #[.slice pA pn pc, .slice sA sn sc] 50)).alloc (.cells #[.slice rA rn rc] 53)).alloc (.cells #[.int .i64 0, .int .i64 0] 100) = W1 at *
      apply wp_loose 12 (.v (.agg #[.slice pA pn pc, .slice sA sn sc]) :: .v (.agg #[.slice rA rn rc]) :: .r (RSl m bs) :: .v (.slice A n c) :: .r (RTu m (bodiesL rs h1) mo pa) :: .r (RTu m (bodiesL rs h1) mo pa) :: .r (RSl m (bodiesL rs h1)) :: .v (.int .i64 mo) :: .v (.int .i64 pa) :: .r (RSl m (bodiesL rs h1)) :: .v (.int .i64 mo) :: .v (.int .i64 pa) :: []) (by kernel_rfl) (by kernel_rfl) (by kernel_rfl) (by decide) rfl
      intro K hK
      refine OblS.row rfl 50 (.tmp 3) rfl w.heap.size (by kernel_rfl) 50 _ _ E0.out.tab Tryz.underlying50 rfl (by kernel_rfl) ?_
      refine OblS.row rfl 53 (.tmp 4) rfl (w.heap.size + 1) (by kernel_rfl) 53 _ _ E0.out.man Tryz.underlying53 rfl (by kernel_rfl) ?_
      refine OblS.callR 87 RSl.stable (by kernel_rfl) (fun w' hb _ => ⟨#[.agg #[.slice rA rn rc]], (by kernel_rfl), HBe.out w' (nextB E0.out.below hb)⟩) ?_
      intro v2
      refine OblS.val (by kernel_rfl) (fun w' _ _ => (by kernel_rfl)) ?_
      refine OblS.callR 96 RTu.stable (by kernel_rfl) (fun w' hb hH => ?_) ?_
      · obtain ⟨A', c', rfl, hsl⟩ := hH _ (List.mem_cons_self ..) (by kernel_rfl)
        exact ⟨#[.agg #[.slice pA pn pc, .slice sA sn sc], .slice A' m c', .slice A n c], (by kernel_rfl), HFo.out w' (nextB E0.out.below hb) A' c' hsl⟩
      intro v4
      refine OblS.run RTu.stable (by kernel_rfl) (fun w' hb hH => ?_) ?_
      · obtain ⟨A', c', rfl, hsl⟩ := hH _ (List.mem_cons_self ..) (by kernel_rfl)
        exact ⟨_, w', (by kernel_rfl), ⟨A', c', rfl, hsl⟩, Below.refl _ _⟩
      intro v5
      refine OblS.run RSl.stable (by kernel_rfl) (fun w' hb hH => ?_) ?_
      · obtain ⟨A', c', rfl, hsl⟩ := hH _ (List.mem_cons_self ..) (by kernel_rfl)
        exact ⟨_, w', (by kernel_rfl), ⟨A', c', rfl, hsl⟩, Below.refl _ _⟩
      intro v6
      refine OblS.val (by kernel_rfl) (fun w' hb hH => ?_) ?_
      · obtain ⟨A', c', rfl, hsl⟩ := hH _ (List.mem_cons_of_mem _ (List.mem_cons_self ..)) (by kernel_rfl)
        kernel_rfl
      refine OblS.val (by kernel_rfl) (fun w' hb hH => ?_) ?_
      · obtain ⟨A', c', rfl, hsl⟩ := hH _ (List.mem_cons_of_mem _ (List.mem_cons_self ..)) (by kernel_rfl)
        kernel_rfl
      refine OblS.run RSl.stable (by kernel_rfl) (fun w' hb hH => ?_) ?_
      · obtain ⟨A', c', rfl, hsl⟩ := hH _ (List.mem_cons_self ..) (by kernel_rfl)
        exact ⟨_, w', (by kernel_rfl), ⟨A', c', rfl, hsl⟩, Below.refl _ _⟩
      intro v9
      refine OblS.val (by kernel_rfl) (fun w' _ _ => (by kernel_rfl)) ?_
      refine OblS.val (by kernel_rfl) (fun w' _ _ => (by kernel_rfl)) ?_
      apply OblS.nil
      apply hK
      intro w5 hb hH
      obtain ⟨A9, c9, rfl, hsl9⟩ := hH _ (List.mem_cons_self ..)
      have HS9 := Lib.hid hsl9; have E5 := Lib.hid (E0.out.keep hb)
      clear hH hK K hsl9 hb HBe HFo E0
      simp only [Act.put, List.setIfInBounds_toArray, List.set_cons_zero, List.set_cons_succ, List.drop_succ_cons, List.drop_zero]
      go_wp2_with (first
        | (refine wpList_load_row rfl 50 _ rfl w.heap.size rfl 50 _ (0, 0) _ E5.out.tab Tryz.underlying50 rfl (by kernel_rfl) ?_)
        | (go_at_call 97; refine (HOv0.out A9 c9 _ E5.out.below HS9.out).mono ?_; rintro e w6 ⟨rfl, hb6⟩; have E6 := Lib.hid (E5.out.keep hb6))
        | (refine wpList_store_all rfl 100 _ _ rfl (w.heap.size + 1 + 1) rfl _ rfl 100 _ E6.out.res (by kernel_rfl) rfl (by simp [Value.oneCell']) ?_))
      refine bodyPost_ret (results_row_tmp Tryz.results55 _ _ (w.heap.size + 1 + 1) 100 _ (0, 0) _ rfl (E6.out.res.setRow _) Tryz.underlying100 rfl (by kernel_rfl)) rfl ⟨rfl, rowB E6.out.below (by omega) _⟩
    · rw [decide_eq_false hx0, if_neg (by simp)] at HSO1
      have HS1 := Lib.hid HSO1
      clear HSO HSO1
      obtain ⟨pA, sA, rA, pn, pc, sn, sc, rn, rc, ps, ss, rs⟩ := t
      simp only [Tm.tab, Tm.man] at *
      generalize bodiesL rs h0 = bs at *
      go_enter Tryz.func55, Tryz.ntmps55
      go_wp2
      generalize ((w.alloc (.cells #[.slice pA pn pc, .slice sA sn sc] 50)).alloc (.cells #[.slice rA rn rc] 53)).alloc (.cells #[.int .i64 0, .int .i64 0] 100) = W1 at *
      apply wp_loose 12 (.v (.agg #[.slice pA pn pc, .slice sA sn sc]) :: .v (.agg #[.slice rA rn rc]) :: .r (RSl m bs) :: .v (.slice A n c) :: .r (RTu m (bodiesL rs h1) mo pa) :: .r (RTu m (bodiesL rs h1) mo pa) :: .r (RSl m (bodiesL rs h1)) :: .v (.int .i64 mo) :: .v (.int .i64 pa) :: .r (RSl m (bodiesL rs h1)) :: .v (.int .i64 mo) :: .v (.int .i64 pa) :: []) (by kernel_rfl) (by kernel_rfl) (by kernel_rfl) (by decide) rfl
      intro K hK
      refine OblS.row rfl 50 (.tmp 3) rfl w.heap.size (by kernel_rfl) 50 _ _ E0.out.tab Tryz.underlying50 rfl (by kernel_rfl) ?_
      refine OblS.row rfl 53 (.tmp 4) rfl (w.heap.size + 1) (by kernel_rfl) 53 _ _ E0.out.man Tryz.underlying53 rfl (by kernel_rfl) ?_
      refine OblS.callR 87 RSl.stable (by kernel_rfl) (fun w' hb _ => ⟨#[.agg #[.slice rA rn rc]], (by kernel_rfl), HBe.out w' (nextB E0.out.below hb)⟩) ?_
      intro v2
      refine OblS.val (by kernel_rfl) (fun w' _ _ => (by kernel_rfl)) ?_
      refine OblS.callR 96 RTu.stable (by kernel_rfl) (fun w' hb hH => ?_) ?_
      · obtain ⟨A', c', rfl, hsl⟩ := hH _ (List.mem_cons_self ..) (by kernel_rfl)
        exact ⟨#[.agg #[.slice pA pn pc, .slice sA sn sc], .slice A' m c', .slice A n c], (by kernel_rfl), HFo.out w' (nextB E0.out.below hb) A' c' hsl⟩
      intro v4
      refine OblS.run RTu.stable (by kernel_rfl) (fun w' hb hH => ?_) ?_
      · obtain ⟨A', c', rfl, hsl⟩ := hH _ (List.mem_cons_self ..) (by kernel_rfl)
        exact ⟨_, w', (by kernel_rfl), ⟨A', c', rfl, hsl⟩, Below.refl _ _⟩
      intro v5
      refine OblS.run RSl.stable (by kernel_rfl) (fun w' hb hH => ?_) ?_
      · obtain ⟨A', c', rfl, hsl⟩ := hH _ (List.mem_cons_self ..) (by kernel_rfl)
        exact ⟨_, w', (by kernel_rfl), ⟨A', c', rfl, hsl⟩, Below.refl _ _⟩
      intro v6
      refine OblS.val (by kernel_rfl) (fun w' hb hH => ?_) ?_
      · obtain ⟨A', c', rfl, hsl⟩ := hH _ (List.mem_cons_of_mem _ (List.mem_cons_self ..)) (by kernel_rfl)
        kernel_rfl
      refine OblS.val (by kernel_rfl) (fun w' hb hH => ?_) ?_
      · obtain ⟨A', c', rfl, hsl⟩ := hH _ (List.mem_cons_of_mem _ (List.mem_cons_self ..)) (by kernel_rfl)
        kernel_rfl
      refine OblS.run RSl.stable (by kernel_rfl) (fun w' hb hH => ?_) ?_
      · obtain ⟨A', c', rfl, hsl⟩ := hH _ (List.mem_cons_self ..) (by kernel_rfl)
        exact ⟨_, w', (by kernel_rfl), ⟨A', c', rfl, hsl⟩, Below.refl _ _⟩
      intro v9
      refine OblS.val (by kernel_rfl) (fun w' _ _ => (by kernel_rfl)) ?_
      refine OblS.val (by kernel_rfl) (fun w' _ _ => (by kernel_rfl)) ?_
      apply OblS.nil
      apply hK
      intro w5 hb hH
      obtain ⟨A9, c9, rfl, hsl9⟩ := hH _ (List.mem_cons_self ..)
      have HS9 := Lib.hid hsl9; have E5 := Lib.hid (E0.out.keep hb)
      clear hH hK K hsl9 hb HBe HFo E0
      simp only [Act.put, List.setIfInBounds_toArray, List.set_cons_zero, List.set_cons_succ, List.drop_succ_cons, List.drop_zero]
      go_wp2_with (first
        | (refine wpList_load_row rfl 50 _ rfl w.heap.size rfl 50 _ (0, 0) _ E5.out.tab Tryz.underlying50 rfl (by kernel_rfl) ?_)
        | (go_at_call 97; refine (HOv0.out A9 c9 _ E5.out.below HS9.out).mono ?_; rintro e w6 ⟨rfl, hb6⟩; have E6 := Lib.hid (E5.out.keep hb6))
        | (refine wpList_store_all rfl 100 _ _ rfl (w.heap.size + 1 + 1) rfl _ rfl 100 _ E6.out.res (by kernel_rfl) rfl (by simp [Value.oneCell']) ?_))
      have S6 := Lib.hid (HS9.out.keep hb6)
      clear hb6
      go_loopw [11] (fun x wr => ∃ k : Nat, k ≤ 30 ∧ x = .int .i64 ((k : Int) + 1) ∧ Bz w ⟨pA, sA, rA, pn, pc, sn, sc, rn, rc, ps, ss, rs⟩ wr ∧ SlOf Bd.cs 4 wr A9 m (bodiesL rs h1) ∧ so = searchN P ss (30 - k) ((k : Int) + 1)) (fun x _ => 31 - (intOf x).toNat)
      case atStart => exact ⟨0, by omega, rfl, E6.out, S6.out, HS1.out.symm⟩
      case round =>
        obtain ⟨k, hk, rfl, hE, hS, hQ⟩ := hrel
        have EE := Lib.hid hE; have HS := Lib.hid hS; have HQ := Lib.hid hQ
        clear hE hS hQ
        by_cases hkn : k < 30
        · have hle : (k : Int) + 1 ≤ 30 := by omega
          have HQ1 := Lib.hid (show so = match ss.find? (fun d => P d ((k : Int) + 1)) with | some d => some (d, (k : Int) + 1) | none => searchN P ss (30 - (k + 1)) (((k + 1 : Nat) : Int) + 1) by
            rw [HQ.out, show 30 - k = (30 - (k + 1)) + 1 by omega, searchN_step]; push_cast; rfl)
          obtain ⟨wo, rfl⟩ : ∃ wo : World, wo = wr := ⟨_, rfl⟩
          go_wp2
          go_loopw [12] (fun x wr => ∃ i : Nat, i ≤ sn ∧ x = .int .i64 i ∧ Bz w ⟨pA, sA, rA, pn, pc, sn, sc, rn, rc, ps, ss, rs⟩ wr ∧ SlOf Bd.cs 4 wr A9 m (bodiesL rs h1) ∧ ss.find? (fun d => P d ((k : Int) + 1)) = (ss.drop i).find? (fun d => P d ((k : Int) + 1))) (fun x _ => sn - (intOf x).toNat)
          case atStart => exact ⟨0, by omega, rfl, EE.out, HS.out, by simp⟩
          case round =>
            obtain ⟨i, hi, rfl, hE, hS, hF⟩ := hrel
            have EQ := Lib.hid hE; have HSq := Lib.hid hS; have HF := Lib.hid hF
            clear hE hS hF
            have ct := EQ.out.tab.cell
            by_cases hin : i < sn
            · have hil : i < ss.length := by omega
              have HFs := Lib.hid (find_drop (p := fun d => P d ((k : Int) + 1)) hil)
              obtain ⟨b2, o2, he2⟩ := HSl.out.addr (by omega)
              have hx := List.getElem?_eq_getElem hil
              have hd := HSs.out _ (List.getElem_mem hil)
              obtain ⟨d, hdd⟩ : ∃ d, d = ss[i] := ⟨_, rfl⟩
              try simp only at hd
              rw [← hdd] at hx hd HFs
              try simp only at he2
              subst he2
              have CS := Lib.hid fun (W : World) (hb : Below wr.heap.size wr W) => (show W.cell? ⟨b2, o2 + i, none⟩ = some (.int .i64 d) by simpa using ((HSl.out.keep (nextB EQ.out.below hb)).range inC_len hx) 0 _ rfl)
              have cs := CS.out wr (Below.refl _ _)
              clear hx hdd
              have hs := stayS_sok (d := d) (n := (k : Int) + 1) hd (by omega)
              have HPd := Lib.hid (HOk.out d ((k : Int) + 1))
              have HOv := Lib.hid fun (W : World) (hb : Below wr.heap.size wr W) => HB.out.over h1 HO.out d (by omega) A9 c9 W (nextB EQ.out.below hb) (HSq.out.keep hb)
              have HAf := Lib.hid fun (W : World) (hb : Below wr.heap.size wr W) => HB.out.after h1 HO.out (stayS d d ((k : Int) + 1)) hs A9 c9 W (HSq.out.keep hb)
              have HOv2 := Lib.hid fun (A' : Option Addr) (c' : Nat) (W : World) (hb : Below wr.heap.size wr W) (hs' : SlOf Bd.cs 4 W A' m (bodiesL rs (stayH h1 (stayS d d ((k : Int) + 1))))) => HB.out.over _ (HO.out.stay hs) 0 (by omega) A' c' W (nextB EQ.out.below hb) hs'
              simp only [Tm.tab] at HPd HOv HAf HOv2
              generalize overL ps 0 (bodiesL rs (stayH h1 (stayS d d ((k : Int) + 1)))) = x2 at *
              generalize bodiesL rs (stayH h1 (stayS d d ((k : Int) + 1))) = bs2 at *
              generalize overL ps d (bodiesL rs h1) = x1 at *
              simp only [stayS, St.val] at HAf
              clear hs
              by_cases h1x : x1 < 0
              · go_wp2
                apply wp_loose 17 (.v (.agg #[.slice pA pn pc, .slice (some ⟨b2, o2, none⟩) sn sc]) :: .v (.slice A9 m c9) :: .v (.int .i64 d) :: .v (.int .i64 x1) :: .v (.bool true) :: .v (.bool true) :: .v (.agg #[.slice pA pn pc, .slice (some ⟨b2, o2, none⟩) sn sc]) :: .v (.slice A9 m c9) :: .v (.int .i64 d) :: .v (.agg #[.int .i64 d, .int .i64 d]) :: .v (.int .i64 ((k : Int) + 1)) :: .v (.agg #[.int .i64 ((k : Int) + 1), .int .i64 ((k : Int) + 1)]) :: .v (.agg #[.int .i64 d, .int .i64 d, .int .i64 ((k : Int) + 1), .int .i64 ((k : Int) + 1)]) :: .r (RSl m bs2) :: .v (.int .i64 x2) :: .v (.bool (decide (x2 < 0))) :: .v (.bool (decide (x2 < 0))) :: []) (by kernel_rfl) (by kernel_rfl) (by kernel_rfl) (by decide) rfl
                intro K hK
                refine OblS.row rfl 50 (.tmp 3) rfl w.heap.size (by kernel_rfl) 50 _ _ EQ.out.tab Tryz.underlying50 rfl (by kernel_rfl) ?_
                refine OblS.val (by kernel_rfl) (fun w' _ _ => (by kernel_rfl)) ?_
                refine OblS.val (by kernel_rfl) (fun w' _ _ => (by kernel_rfl)) ?_
                refine OblS.call 97 (by kernel_rfl) (fun w' hb hH => ?_) ?_
                · exact ⟨#[.agg #[.slice pA pn pc, .slice (some ⟨b2, o2, none⟩) sn sc], .slice A9 m c9, .int .i64 d], (by kernel_rfl), HOv.out w' hb⟩
                refine OblS.val (by kernel_rfl) (fun w' _ _ => ?_) ?_
                · go_simp
                refine OblS.val (by kernel_rfl) (fun w' _ _ => (by kernel_rfl)) ?_
                refine OblS.rowG (by kernel_rfl) 50 (.tmp 3) rfl w.heap.size (by kernel_rfl) 50 _ _ EQ.out.tab Tryz.underlying50 rfl (by kernel_rfl) ?_
                refine OblS.val (by kernel_rfl) (fun w' _ _ => (by kernel_rfl)) ?_
                refine OblS.val (by kernel_rfl) (fun w' _ _ => (by kernel_rfl)) ?_
                refine OblS.call 102 (by kernel_rfl) (fun w' hb hH => ?_) ?_
                · exact ⟨#[.int .i64 d], (by kernel_rfl), HJ.out d w'⟩
                refine OblS.val (by kernel_rfl) (fun w' _ _ => (by kernel_rfl)) ?_
                refine OblS.call 102 (by kernel_rfl) (fun w' hb hH => ?_) ?_
                · exact ⟨#[.int .i64 ((k : Int) + 1)], (by kernel_rfl), HJ.out ((k : Int) + 1) w'⟩
                refine OblS.val (by kernel_rfl) (fun w' _ _ => (by kernel_rfl)) ?_
                refine OblS.callR 89 RSl.stable (by kernel_rfl) (fun w' hb hH => ⟨#[.slice A9 m c9, .agg #[.int .i64 d, .int .i64 d, .int .i64 ((k : Int) + 1), .int .i64 ((k : Int) + 1)]], (by kernel_rfl), HAf.out w' hb⟩) ?_
                intro v16
                refine OblS.call 97 (by kernel_rfl) (fun w' hb hH => ?_) ?_
                · obtain ⟨A', c', rfl, hsl⟩ := hH _ (List.mem_cons_self ..) (by kernel_rfl)
                  exact ⟨#[.agg #[.slice pA pn pc, .slice (some ⟨b2, o2, none⟩) sn sc], .slice A' m c', .int .i64 0], (by kernel_rfl), HOv2.out A' c' w' hb hsl⟩
                refine OblS.val (by kernel_rfl) (fun w' _ _ => ?_) ?_
                · go_simp
                refine OblS.val (by kernel_rfl) (fun w' _ _ => (by kernel_rfl)) ?_
                apply OblS.nil
                apply hK
                intro w7 hb hH
                have E7 := Lib.hid (EQ.out.keep hb); have S7 := Lib.hid (HSq.out.keep hb)
                clear hH hK K hb
                simp only [Act.put, List.setIfInBounds_toArray, List.set_cons_zero, List.set_cons_succ, List.drop_succ_cons, List.drop_zero]
                by_cases h2x : x2 < 0
                · have HR := Lib.hid (show so = some (d, (k : Int) + 1) by rw [HQ1.out, HF.out, HFs.out, HPd.out]; simp [h1x, h2x])
                  have E8 := Lib.hid E7.out.res
                  go_wp2_with (refine wpList_store_all rfl 100 _ _ rfl (w.heap.size + 1 + 1) rfl _ rfl 100 _ E8.out (by kernel_rfl) rfl (by simp [Value.oneCell']) ?_)
                  refine bodyPost_ret (results_row_tmp Tryz.results55 _ _ (w.heap.size + 1 + 1) 100 _ (0, 0) _ rfl (E8.out.setRow _) Tryz.underlying100 rfl (by kernel_rfl)) rfl ⟨?_, rowB E7.out.below (by omega) _⟩
                  rw [HR.out]; rfl
                · go_wp2
                  go_roundw
                  case rel => exact ⟨i + 1, by omega, by go_num, E7.out, S7.out, by rw [HF.out, HFs.out, HPd.out]; simp [h1x, h2x]⟩
                  case measure => simp [intOf]; omega
              · go_wp2
                apply wp_loose 17 (.v (.agg #[.slice pA pn pc, .slice (some ⟨b2, o2, none⟩) sn sc]) :: .v (.slice A9 m c9) :: .v (.int .i64 d) :: .v (.int .i64 x1) :: .v (.bool false) :: .v (.bool false) :: .v undef :: .v undef :: .v undef :: .v undef :: .v undef :: .v undef :: .v undef :: .v undef :: .v undef :: .v undef :: .v (.bool false) :: []) (by kernel_rfl) (by kernel_rfl) (by kernel_rfl) (by decide) rfl
                intro K hK
                refine OblS.row rfl 50 (.tmp 3) rfl w.heap.size (by kernel_rfl) 50 _ _ EQ.out.tab Tryz.underlying50 rfl (by kernel_rfl) ?_
                refine OblS.val (by kernel_rfl) (fun w' _ _ => (by kernel_rfl)) ?_
                refine OblS.val (by kernel_rfl) (fun w' _ _ => (by kernel_rfl)) ?_
                refine OblS.call 97 (by kernel_rfl) (fun w' hb hH => ?_) ?_
                · exact ⟨#[.agg #[.slice pA pn pc, .slice (some ⟨b2, o2, none⟩) sn sc], .slice A9 m c9, .int .i64 d], (by kernel_rfl), HOv.out w' hb⟩
                refine OblS.val (by kernel_rfl) (fun w' _ _ => ?_) ?_
                · go_simp
                refine OblS.val (by kernel_rfl) (fun w' _ _ => (by kernel_rfl)) ?_
                iterate 10 refine OblS.skip (by kernel_rfl) ?_
                refine OblS.val (by kernel_rfl) (fun w' _ _ => (by kernel_rfl)) ?_
                apply OblS.nil
                apply hK
                intro w7 hb hH
                have E7 := Lib.hid (EQ.out.keep hb); have S7 := Lib.hid (HSq.out.keep hb)
                clear hH hK K hb
                simp only [Act.put, List.setIfInBounds_toArray, List.set_cons_zero, List.set_cons_succ, List.drop_succ_cons, List.drop_zero]
                go_wp2
                go_roundw
                case rel => exact ⟨i + 1, by omega, by go_num, E7.out, S7.out, by rw [HF.out, HFs.out, HPd.out]; simp [show ¬ x1 < 0 by omega]⟩
                case measure => simp [intOf]; omega
            · have hie : i = sn := by omega
              subst hie
              have HN := Lib.hid (show so = searchN P ss (30 - (k + 1)) (((k + 1 : Nat) : Int) + 1) by rw [HQ1.out, HF.out, List.drop_eq_nil_of_le (by omega)]; rfl)
              go_wp2
              go_roundw
              case rel => exact ⟨k + 1, by omega, by go_num, EQ.out, HSq.out, HN.out⟩
              case measure => simp [intOf]; omega
        · have hke : k = 30 := by omega
          subst hke
          have HN := Lib.hid (show so = none by rw [HQ.out]; rfl)
          go_wp2_with (refine wpList_store_all rfl 100 _ _ rfl (w.heap.size + 1 + 1) rfl _ rfl 100 _ EE.out.res (by kernel_rfl) rfl (by simp [Value.oneCell']) ?_)
          refine bodyPost_ret (results_row_tmp Tryz.results55 _ _ (w.heap.size + 1 + 1) 100 _ (0, 0) _ rfl (EE.out.res.setRow _) Tryz.underlying100 rfl (by kernel_rfl)) rfl ⟨?_, rowB EE.out.below (by omega) _⟩
          rw [HN.out]; rfl
  · have hge : mo ≥ 0 := by omega
    have HSO1 := HSO.out
    rw [decide_eq_false hmo, if_neg (by simp)] at HSO1
    subst HSO1
    clear HSO HB HOk HSs HSl hsl HJ HOv0 hsn HO
    obtain ⟨pA, sA, rA, pn, pc, sn, sc, rn, rc, ps, ss, rs⟩ := t
    simp only [Tm.tab, Tm.man] at *
    generalize bodiesL rs h0 = bs at *
    go_enter Tryz.func55, Tryz.ntmps55
    go_wp2
    generalize ((w.alloc (.cells #[.slice pA pn pc, .slice sA sn sc] 50)).alloc (.cells #[.slice rA rn rc] 53)).alloc (.cells #[.int .i64 0, .int .i64 0] 100) = W1 at *
    apply wp_loose 12 (.v (.agg #[.slice pA pn pc, .slice sA sn sc]) :: .v (.agg #[.slice rA rn rc]) :: .r (RSl m bs) :: .v (.slice A n c) :: .r (RTu m (bodiesL rs h1) mo pa) :: .r (RTu m (bodiesL rs h1) mo pa) :: .r (RSl m (bodiesL rs h1)) :: .v (.int .i64 mo) :: .v (.int .i64 pa) :: .r (RSl m (bodiesL rs h1)) :: .v (.int .i64 mo) :: .v (.int .i64 pa) :: []) (by kernel_rfl) (by kernel_rfl) (by kernel_rfl) (by decide) rfl
    intro K hK
    refine OblS.row rfl 50 (.tmp 3) rfl w.heap.size (by kernel_rfl) 50 _ _ E0.out.tab Tryz.underlying50 rfl (by kernel_rfl) ?_
    refine OblS.row rfl 53 (.tmp 4) rfl (w.heap.size + 1) (by kernel_rfl) 53 _ _ E0.out.man Tryz.underlying53 rfl (by kernel_rfl) ?_
    refine OblS.callR 87 RSl.stable (by kernel_rfl) (fun w' hb _ => ⟨#[.agg #[.slice rA rn rc]], (by kernel_rfl), HBe.out w' (nextB E0.out.below hb)⟩) ?_
    intro v2
    refine OblS.val (by kernel_rfl) (fun w' _ _ => (by kernel_rfl)) ?_
    refine OblS.callR 96 RTu.stable (by kernel_rfl) (fun w' hb hH => ?_) ?_
    · obtain ⟨A', c', rfl, hsl⟩ := hH _ (List.mem_cons_self ..) (by kernel_rfl)
      exact ⟨#[.agg #[.slice pA pn pc, .slice sA sn sc], .slice A' m c', .slice A n c], (by kernel_rfl), HFo.out w' (nextB E0.out.below hb) A' c' hsl⟩
    intro v4
    refine OblS.run RTu.stable (by kernel_rfl) (fun w' hb hH => ?_) ?_
    · obtain ⟨A', c', rfl, hsl⟩ := hH _ (List.mem_cons_self ..) (by kernel_rfl)
      exact ⟨_, w', (by kernel_rfl), ⟨A', c', rfl, hsl⟩, Below.refl _ _⟩
    intro v5
    refine OblS.run RSl.stable (by kernel_rfl) (fun w' hb hH => ?_) ?_
    · obtain ⟨A', c', rfl, hsl⟩ := hH _ (List.mem_cons_self ..) (by kernel_rfl)
      exact ⟨_, w', (by kernel_rfl), ⟨A', c', rfl, hsl⟩, Below.refl _ _⟩
    intro v6
    refine OblS.val (by kernel_rfl) (fun w' hb hH => ?_) ?_
    · obtain ⟨A', c', rfl, hsl⟩ := hH _ (List.mem_cons_of_mem _ (List.mem_cons_self ..)) (by kernel_rfl)
      kernel_rfl
    refine OblS.val (by kernel_rfl) (fun w' hb hH => ?_) ?_
    · obtain ⟨A', c', rfl, hsl⟩ := hH _ (List.mem_cons_of_mem _ (List.mem_cons_self ..)) (by kernel_rfl)
      kernel_rfl
    refine OblS.run RSl.stable (by kernel_rfl) (fun w' hb hH => ?_) ?_
    · obtain ⟨A', c', rfl, hsl⟩ := hH _ (List.mem_cons_self ..) (by kernel_rfl)
      exact ⟨_, w', (by kernel_rfl), ⟨A', c', rfl, hsl⟩, Below.refl _ _⟩
    intro v9
    refine OblS.val (by kernel_rfl) (fun w' _ _ => (by kernel_rfl)) ?_
    refine OblS.val (by kernel_rfl) (fun w' _ _ => (by kernel_rfl)) ?_
    apply OblS.nil
    apply hK
    intro w5 hb hH
    obtain ⟨A9, c9, rfl, hsl9⟩ := hH _ (List.mem_cons_self ..)
    have HS9 := Lib.hid hsl9; have E5 := Lib.hid (E0.out.keep hb)
    clear hH hK K hsl9 hb HBe HFo E0
    simp only [Act.put, List.setIfInBounds_toArray, List.set_cons_zero, List.set_cons_succ, List.drop_succ_cons, List.drop_zero]
    go_wp2_with (refine wpList_store_all rfl 100 _ _ rfl (w.heap.size + 1 + 1) rfl _ rfl 100 _ E5.out.res (by kernel_rfl) rfl (by simp [Value.oneCell']) ?_)
    refine bodyPost_ret (results_row_tmp Tryz.results55 _ _ (w.heap.size + 1 + 1) 100 _ (0, 0) _ rfl (E5.out.res.setRow _) Tryz.underlying100 rfl (by kernel_rfl)) rfl ⟨rfl, rowB E5.out.below (by omega) _⟩
end Go.Proofs
