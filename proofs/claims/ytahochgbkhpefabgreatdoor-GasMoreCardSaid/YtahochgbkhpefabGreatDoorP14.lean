/-
  What a stop, a rest, a chamber and the latest moment are, and contracts of the law's listed and of the specification's Stopped and Rested, hold where table, man and dive are as defined.
-/
import Derived.Test.YtahochgbkhpefabGreatDoorP13
import Derived.Test.YtahochgbkhpefabGreatDoorP6
import Derived.Test.YtahochgbkhpefabGreatDoorP12
namespace Go.Proofs
open Go.RowKit Gas

/-- A function with one value changed. -/
def upd (f : Nat → Pr) (p : Nat) (x : Pr) : Nat → Pr := fun q => if q = p then x else f q
theorem upd_at (f : Nat → Pr) (p : Nat) (x : Pr) : upd f p x p = x := by simp [upd]
theorem upd_upd (f : Nat → Pr) (p : Nat) (x y : Pr) : upd (upd f p x) p y = upd f p y := by funext q; unfold upd; split <;> rfl
/-- Whether a body's part is another one than that of the body before. -/
def freshB (pv : Option Int) (p : Int) : Bool := match pv with | none => true | some q => decide (q ≠ p)
def spS (f : Nat → Pr) (fresh : Bool) (b : Bd) : Nat → Pr := upd f b.p.toNat (if fresh then (b.lo, b.hi) else (min (f b.p.toNat).1 b.lo, max (f b.p.toNat).2 b.hi))
/-- The spans of all parts, body by body. -/
def spF : List Bd → Option Int → (Nat → Pr) → Nat → Pr
  | [], _, f => f
  | b :: l, pv, f => spF l (some b.p) (spS f (freshB pv b.p) b)
def prevO (xs : List Bd) : Nat → Option Int
  | 0 => none
  | k + 1 => xs[k]?.map (·.p)
def lastP (xs : List Bd) (pv : Option Int) : Option Int := match xs.getLast? with | none => pv | some b => some b.p
theorem lastP_cons (b : Bd) (l : List Bd) (pv : Option Int) : lastP (b :: l) pv = lastP l (some b.p) := by
  cases l with
  | nil => rfl
  | cons c l => simp [lastP, List.getLast?_cons]
theorem lastP_snoc (xs : List Bd) (b : Bd) (pv : Option Int) : lastP (xs ++ [b]) pv = some b.p := by simp [lastP]
theorem spF_append : ∀ (xs ys : List Bd) (pv : Option Int) (f : Nat → Pr), spF (xs ++ ys) pv f = spF ys (lastP xs pv) (spF xs pv f)
  | [], ys, pv, f => rfl
  | b :: l, ys, pv, f => by
    show spF (l ++ ys) (some b.p) (spS f (freshB pv b.p) b) = _
    rw [spF_append l ys, lastP_cons]; rfl
theorem bodiesK_last (h : Nat → Int → Pr) (k : Nat) (lo : Int) (n : Nat) (pv : Option Int) : lastP (bodiesK h k lo (n + 1)) pv = some (k : Int) := by
  rw [bodiesK_succ, lastP_snoc]
theorem minOf_one (g : Int → Int) (lo : Int) : minOf g lo 1 = g lo := by simp [minOf]
theorem maxOf_one (g : Int → Int) (lo : Int) : maxOf g lo 1 = g lo := by simp [maxOf]
theorem spF_bodiesK (h : Nat → Int → Pr) (k : Nat) (lo : Int) (pv : Option Int) (f : Nat → Pr) (hp : freshB pv k = true) : ∀ n : Nat, spF (bodiesK h k lo (n + 1)) pv f = upd f k (minOf (fun x => (h k x).1) lo (n + 1), maxOf (fun x => (h k x).2) lo (n + 1))
  | 0 => by
    simp [bodiesK, ratesL, spF, spS, hp, minOf_one, maxOf_one]
  | n + 1 => by
    rw [bodiesK_succ, spF_append, spF_bodiesK h k lo pv f hp n, bodiesK_last]
    simp [spF, spS, freshB, upd_at, upd_upd]
    rfl
theorem lastP_bodiesTo {rs : List Pr} (hr : ∀ k, k < rs.length → (rs.getD k (0, 0)).1 ≤ (rs.getD k (0, 0)).2) (h : Nat → Int → Pr) (k : Nat) (hk : k < rs.length) : lastP (bodiesTo rs h (k + 1)) none = some (k : Int) := by
  have e : ∃ n, ratesN (rs.getD k (0, 0)).1 (rs.getD k (0, 0)).2 = n + 1 := ⟨ratesN (rs.getD k (0, 0)).1 (rs.getD k (0, 0)).2 - 1, by have := hr k hk; unfold ratesN; omega⟩
  obtain ⟨n, e⟩ := e
  rw [bodiesTo, e, bodiesK_succ, ← List.append_assoc, lastP_snoc]
theorem spF_bodiesTo {rs : List Pr} (hr : ∀ k, k < rs.length → (rs.getD k (0, 0)).1 ≤ (rs.getD k (0, 0)).2) (h : Nat → Int → Pr) (f : Nat → Pr) : ∀ k, k ≤ rs.length → spF (bodiesTo rs h k) none f = fun q => if q < k then (leastF rs h q, greatF rs h q) else f q
  | 0, _ => by funext q; simp [bodiesTo, spF]
  | k + 1, hk => by
    have e : ∃ n, ratesN (rs.getD k (0, 0)).1 (rs.getD k (0, 0)).2 = n + 1 := ⟨ratesN (rs.getD k (0, 0)).1 (rs.getD k (0, 0)).2 - 1, by have := hr k (by omega); unfold ratesN; omega⟩
    obtain ⟨n, e⟩ := e
    have hf : freshB (lastP (bodiesTo rs h k) none) (k : Int) = true := by
      cases k with
      | zero => rfl
      | succ k => rw [lastP_bodiesTo hr h k (by omega)]; simp [freshB]; omega
    rw [bodiesTo, spF_append, spF_bodiesTo hr h f k (by omega), e, spF_bodiesK h k _ _ _ hf]
    funext q
    unfold upd
    by_cases hq : q = k
    · subst hq; rw [if_pos rfl, if_pos (by omega)]; unfold leastF greatF; rw [e]
    · rw [if_neg hq]
      by_cases hq2 : q < k
      · simp [hq2, show q < k + 1 by omega]
      · simp [hq2, show ¬ q < k + 1 by omega]
theorem spF_drop (xs : List Bd) (k : Nat) (h : k < xs.length) (f : Nat → Pr) : spF (xs.drop k) (prevO xs k) f = spF (xs.drop (k + 1)) (prevO xs (k + 1)) (spS f (freshB (prevO xs k) xs[k].p) xs[k]) := by
  rw [List.drop_eq_getElem_cons h]
  show spF _ (some xs[k].p) _ = _
  simp [prevO, List.getElem?_eq_getElem h]
theorem spF_len (xs : List Bd) (k : Nat) (h : xs.length ≤ k) (pv : Option Int) (f : Nat → Pr) : spF (xs.drop k) pv f = f := by rw [List.drop_eq_nil_of_le h]; rfl
end Go.Proofs
namespace Go.Proofs
open Go.RowKit Gas

/-- The specification's search for a stop: minutes first, then depths in their order. -/
def searchN (p : Int → Int → Bool) (ds : List Int) : Nat → Int → Option Pr
  | 0, _ => none
  | k + 1, m => match ds.find? (fun d => p d m) with | some d => some (d, m) | none => searchN p ds k (m + 1)
/-- The specification's search for a chamber: depths first, then minutes. -/
def searchD (p : Int → Int → Bool) (n : Nat) : Nat → Int → Option Pr
  | 0, _ => none
  | k + 1, d => match firstFrom (p d) n 1 with | some m => some (d, m) | none => searchD p n k (d + 1)
theorem foldl_keep (lt : Pr → Pr → Bool) (x : Pr) : ∀ B : List Pr, (∀ y ∈ B, lt y x = false) → B.foldl (better lt) (some x) = some x
  | [], _ => rfl
  | y :: B, h => by
    have : better lt (some x) y = some x := by simp [better, h y (by simp)]
    rw [List.foldl_cons, this]
    exact foldl_keep lt x B fun z hz => h z (by simp [hz])
theorem foldl_mem (lt : Pr → Pr → Bool) : ∀ (A : List Pr) (o : Option Pr) (b : Pr), A.foldl (better lt) o = some b → o = some b ∨ b ∈ A
  | [], o, b, h => .inl h
  | y :: A, o, b, h => by
    rcases foldl_mem lt A _ b (by simpa using h) with h1 | h1
    · cases o with
      | none => simp [better] at h1; exact .inr (by simp [h1])
      | some c =>
        simp only [better] at h1
        split at h1
        · cases h1; exact .inr (by simp)
        · exact .inl h1
    · exact .inr (by simp [h1])
theorem bestOf_split (lt : Pr → Pr → Bool) (A B : List Pr) (x : Pr) (hA : ∀ y ∈ A, lt x y = true) (hB : ∀ y ∈ B, lt y x = false) : bestOf lt (A ++ x :: B) = some x := by
  unfold bestOf
  rw [List.foldl_append, List.foldl_cons]
  have : better lt (A.foldl (better lt) none) x = some x := by
    cases h : A.foldl (better lt) none with
    | none => rfl
    | some b =>
      rcases foldl_mem lt A none b h with h1 | h1
      · cases h1
      · simp [better, hA b h1]
  rw [this]
  exact foldl_keep lt x B hB
theorem firstFrom_ge (p : Int → Bool) : ∀ (n : Nat) (d m : Int), firstFrom p n d = some m → d ≤ m
  | 0, d, m, h => by cases h
  | n + 1, d, m, h => by
    unfold firstFrom at h
    split at h
    · cases h; omega
    · have := firstFrom_ge p n _ _ h; omega
theorem firstFrom_no (p : Int → Bool) (n : Nat) (d : Int) (h : p d = false) : firstFrom p (n + 1) d = firstFrom p n (d + 1) := by simp [firstFrom, h]
theorem firstFrom_all {p : Int → Bool} (h : ∀ x, p x = false) : ∀ (n : Nat) (d : Int), firstFrom p n d = none
  | 0, _ => rfl
  | n + 1, d => by rw [firstFrom_no p n d (h d)]; exact firstFrom_all h n (d + 1)
theorem find_split {p : Int → Bool} : ∀ {ds : List Int} {d : Int}, ds.find? p = some d → ∃ l1 l2, ds = l1 ++ d :: l2 ∧ p d = true ∧ ∀ x ∈ l1, p x = false
  | [], d, h => by cases h
  | x :: ds, d, h => by
    rw [List.find?_cons] at h
    split at h
    · rename_i hx; cases h; exact ⟨[], ds, rfl, hx, by simp⟩
    · rename_i hx
      obtain ⟨l1, l2, e, h1, h2⟩ := find_split h
      exact ⟨x :: l1, l2, by rw [e]; rfl, h1, fun y hy => by rcases List.mem_cons.1 hy with rfl | hy; exact hx; exact h2 y hy⟩
theorem find_no {p : Int → Bool} : ∀ {ds : List Int}, ds.find? p = none → ∀ x ∈ ds, p x = false := by
  intro ds h x hx
  have := List.find?_eq_none.1 h x hx
  simpa using this
theorem filterMap_same {α β : Type} {f g : α → Option β} : ∀ {l : List α}, (∀ x ∈ l, f x = g x) → l.filterMap f = l.filterMap g
  | [], _ => rfl
  | x :: l, h => by rw [List.filterMap_cons, List.filterMap_cons, h x (by simp), filterMap_same fun y hy => h y (by simp [hy])]
theorem best_searchN (p : Int → Int → Bool) (ds : List Int) : ∀ (k : Nat) (m : Int), bestOf ltM (ds.filterMap fun d => (firstFrom (p d) k m).map fun n => (d, n)) = searchN p ds k m
  | 0, m => by
    have : (ds.filterMap fun d => (firstFrom (p d) 0 m).map fun n => (d, n)) = [] := by
      rw [List.filterMap_eq_nil_iff]; intro d _; rfl
    rw [this]; rfl
  | k + 1, m => by
    unfold searchN
    cases hf : ds.find? (fun d => p d m) with
    | some d =>
      obtain ⟨l1, l2, e, h1, h2⟩ := find_split hf
      have hd : (firstFrom (p d) (k + 1) m).map (fun n => (d, n)) = some (d, m) := by simp [firstFrom, h1]
      rw [e, List.filterMap_append, List.filterMap_cons, hd]
      apply bestOf_split
      · intro y hy
        obtain ⟨x, hx, hy⟩ := List.mem_filterMap.1 hy
        rw [firstFrom_no _ _ _ (h2 x hx)] at hy
        obtain ⟨n, hn, rfl⟩ := Option.map_eq_some_iff.1 hy
        have := firstFrom_ge _ _ _ _ hn
        simp only [ltM, decide_eq_true_eq]; omega
      · intro y hy
        obtain ⟨x, hx, hy⟩ := List.mem_filterMap.1 hy
        obtain ⟨n, hn, rfl⟩ := Option.map_eq_some_iff.1 hy
        have := firstFrom_ge _ _ _ _ hn
        simp only [ltM, decide_eq_false_iff_not]; omega
    | none =>
      have hn := find_no hf
      simp only
      rw [← best_searchN p ds k (m + 1)]
      congr 1
      refine filterMap_same fun d hd => ?_
      simp only [firstFrom_no _ _ _ (hn d hd)]
def chF : Nat → Int → List Int
  | 0, _ => []
  | k + 1, d => d :: chF k (d + 1)
theorem chF_ge : ∀ (k : Nat) (d x : Int), x ∈ chF k d → d ≤ x
  | 0, d, x, h => by cases h
  | k + 1, d, x, h => by
    rcases List.mem_cons.1 h with rfl | h
    · omega
    · have := chF_ge k _ _ h; omega
theorem chF_snoc : ∀ (k : Nat) (d : Int), chF (k + 1) d = chF k d ++ [d + k]
  | 0, d => by simp [chF]
  | k + 1, d => by
    rw [chF, chF_snoc k (d + 1), chF, List.cons_append]
    congr 3; push_cast; omega
theorem chL_eq : ∀ n, chL n = chF n 1
  | 0 => rfl
  | n + 1 => by
    rw [chF_snoc, ← chL_eq n]; simp [chL, List.range_succ]; omega
theorem best_searchD (p : Int → Int → Bool) (n : Nat) : ∀ (k : Nat) (d : Int), bestOf ltD ((chF k d).filterMap fun d => (firstFrom (p d) n 1).map fun m => (d, m)) = searchD p n k d
  | 0, d => rfl
  | k + 1, d => by
    unfold searchD
    rw [chF, List.filterMap_cons]
    cases hf : firstFrom (p d) n 1 with
    | none => simp only [Option.map_none]; exact best_searchD p n k (d + 1)
    | some m =>
      simp only [Option.map_some]
      refine bestOf_split ltD [] _ (d, m) (by simp) fun y hy => ?_
      obtain ⟨x, hx, hy⟩ := List.mem_filterMap.1 hy
      obtain ⟨m', _, rfl⟩ := Option.map_eq_some_iff.1 hy
      have := chF_ge _ _ _ hx
      simp only [ltD, decide_eq_false_iff_not]; omega
/-- Whether a stop helps. -/
def okS (ps rs : List Pr) (h : Nat → Int → Pr) (d n : Int) : Bool := enterB ps rs h d true && enterB ps rs (stayH h (stayS d d n)) 0 true
theorem stay_zero (h : Nat → Int → Pr) (d : Int) : stayH h (stayS d d (0 : Nat)) = h := by
  funext p x
  simp [stayH, aftP, stayS, allF, nowF, loadF]
theorem stay_next (h : Nat → Int → Pr) (d : Int) (n : Nat) : stayH (stayH h (stayS d d (n : Nat))) (stayS d d 1) = stayH h (stayS d d ((n + 1 : Nat) : Int)) := by
  funext p x
  simp only [stayH, aftP, stayS, Int.sub_self, Int.toNat_zero, allF, nowF, Int.toNat_natCast, show (1 : Int).toNat = 1 from rfl]
  rw [loadF_add, loadF_add]
theorem stopFrom_first (ps rs : List Pr) (h : Nat → Int → Pr) (d : Int) : ∀ (n i : Nat), stopFrom ps rs d true n (stayH h (stayS d d (i : Nat))) i = firstFrom (fun m => enterB ps rs (stayH h (stayS d d m)) 0 true) n ((i + 1 : Nat) : Int)
  | 0, i => rfl
  | n + 1, i => by
    unfold stopFrom firstFrom
    rw [stay_next]
    have := stopFrom_first ps rs h d n (i + 1)
    push_cast at this ⊢
    rw [this]
theorem stopAt_first (ps rs : List Pr) (h : Nat → Int → Pr) (d : Int) : stopAt ps rs (h, true) d = firstFrom (okS ps rs h d) 30 1 := by
  unfold stopAt
  cases he : enterB ps rs h d true
  · rw [if_neg (by simp)]
    exact (firstFrom_all (fun x => by simp [okS, he]) 30 1).symm
  · rw [if_pos rfl]
    have := stopFrom_first ps rs h d 30 0
    rw [stay_zero] at this
    have e : okS ps rs h d = fun m => enterB ps rs (stayH h (stayS d d m)) 0 true := by funext m; simp [okS, he]
    rw [e]; exact this
theorem stopsL_false (ps rs : List Pr) (h : Nat → Int → Pr) (ds : List Int) : stopsL ps rs (h, false) ds = [] := by
  unfold stopsL
  rw [List.filterMap_eq_nil_iff]
  intro d _
  simp [stopAt, enterB_false]
theorem stopsL_true (ps rs : List Pr) (h : Nat → Int → Pr) (ds : List Int) : stopsL ps rs (h, true) ds = ds.filterMap fun d => (firstFrom (okS ps rs h d) 30 1).map fun n => (d, n) := by
  unfold stopsL
  exact filterMap_same fun d _ => by rw [stopAt_first]
/-- What the specification's Stop returns. -/
def refStR (ps rs : List Pr) (ss : List Int) (a : FS) : Option Pr := if a.2 then (if enterB ps rs a.1 0 true then some (0, 0) else searchN (okS ps rs a.1) ss 30 1) else none
theorem stop_search (ps rs : List Pr) (ss : List Int) (a : FS) : (if enterB ps rs a.1 0 a.2 then some (0, 0) else bestOf ltM (stopsL ps rs a ss)) = refStR ps rs ss a := by
  obtain ⟨h, k⟩ := a
  unfold refStR
  cases k
  · simp [enterB_false, stopsL_false, bestOf]
  · simp only [stopsL_true, best_searchN, if_true]
theorem cham_search (ps rs : List Pr) (h : Nat → Int → Pr) : bestOf ltD (stopsL ps rs (h, true) (chL 40)) = searchD (okS ps rs h) 30 40 1 := by
  rw [stopsL_true, chL_eq, best_searchD]
end Go.Proofs
namespace Go.Proofs
open Go.RowKit Gas

/-- What is held by each body, and whether the limits were kept, at each moment of a dive. -/
def atF (ps rs : List Pr) (dive : List St) (a : FS) : Nat → FS
  | 0 => a
  | i + 1 => (stayH (atF ps rs dive a i).1 (dive.getD i st0), enterB ps rs (atF ps rs dive a i).1 (dive.getD i st0).dl (atF ps rs dive a i).2)
theorem atF_cons (ps rs : List Pr) (s : St) (l : List St) (a : FS) : ∀ i, atF ps rs (s :: l) a (i + 1) = atF ps rs l (stayH a.1 s, enterB ps rs a.1 s.dl a.2) i
  | 0 => rfl
  | i + 1 => by
    show (stayH (atF ps rs (s :: l) a (i + 1)).1 (l.getD i st0), enterB ps rs (atF ps rs (s :: l) a (i + 1)).1 (l.getD i st0).dl (atF ps rs (s :: l) a (i + 1)).2) = _
    rw [atF_cons ps rs s l a i]; rfl
theorem folS_at (ps rs : List Pr) : ∀ (l : List St) (a : FS), folS ps rs a l = atF ps rs l a l.length
  | [], a => rfl
  | s :: l, a => by
    show folS ps rs _ l = atF ps rs (s :: l) a (l.length + 1)
    rw [folS_at ps rs l, atF_cons]
theorem knownL_at (ps rs : List Pr) (pn : Nat) : ∀ (l : List St) (a : FS) (i : Nat), i < l.length → (knownL ps rs pn a l)[i]? = some (spansOf rs (atF ps rs l a i).1 pn)
  | [], a, i, h => by simp at h
  | s :: l, a, 0, h => rfl
  | s :: l, a, i + 1, h => by
    show (knownL ps rs pn _ l)[i]? = _
    rw [knownL_at ps rs pn l _ i (by simpa using h), atF_cons]
theorem knownL_len (ps rs : List Pr) (pn : Nat) : ∀ (l : List St) (a : FS), (knownL ps rs pn a l).length = l.length
  | [], _ => rfl
  | s :: l, a => by
    show (knownL ps rs pn _ l).length + 1 = _
    rw [knownL_len ps rs pn l]; rfl
theorem atF_snoc (ps rs : List Pr) (dive : List St) (s : St) (a : FS) : ∀ i, i ≤ dive.length → atF ps rs (dive ++ [s]) a i = atF ps rs dive a i
  | 0, _ => rfl
  | i + 1, h => by
    have e : (dive ++ [s]).getD i st0 = dive.getD i st0 := by
      simp only [List.getD_eq_getElem?_getD]; rw [List.getElem?_append_left (by omega)]
    unfold atF
    rw [atF_snoc ps rs dive s a i (by omega), e]
theorem atF_kept (ps rs : List Pr) (dive : List St) (a : FS) : ∀ n, (atF ps rs dive a n).2 = true → ∀ i, i < n → ∀ p, p < ps.length → exceedsB ps rs (atF ps rs dive a i).1 p (dive.getD i st0).dl = false
  | 0, _, i, hi => by omega
  | n + 1, h, i, hi => by
    obtain ⟨h1, h2⟩ := (enterB_iff _ _ _ _ _).1 (show enterB ps rs (atF ps rs dive a n).1 (dive.getD n st0).dl (atF ps rs dive a n).2 = true from h)
    rcases Nat.lt_succ_iff_lt_or_eq.1 hi with hi | rfl
    · exact atF_kept ps rs dive a n h1 i hi
    · exact h2
/-- What is held in truth, by each compartment at each moment. -/
def heldT (xs ds ms : List Int) : Nat → Nat → Int
  | 0, _ => 1000
  | i + 1, k => loadF (heldT xs ds ms i k) (xs.getD k 0) (ds.getD i 0) (ms.getD i 0).toNat
structure FitP (rs : List Pr) (dive : List St) (xs ds ms : List Int) : Prop where
  rate : ∀ k, k < rs.length → (rs.getD k (0, 0)).1 ≤ xs.getD k 0 ∧ xs.getD k 0 ≤ (rs.getD k (0, 0)).2
  depth : ∀ i, i < dive.length → (dive.getD i st0).dl ≤ ds.getD i 0 ∧ ds.getD i 0 ≤ (dive.getD i st0).dh
  time : ∀ i, i < dive.length → (dive.getD i st0).ml ≤ ms.getD i 0 ∧ ms.getD i 0 ≤ (dive.getD i st0).mh
theorem allF_le (lo hi r dl dh : Int) (n : Nat) : ∀ k j : Nat, j ≤ k → (allF lo hi r dl dh n k).1 ≤ loadF lo r dl (n + j) ∧ loadF hi r dh (n + j) ≤ (allF lo hi r dl dh n k).2
  | 0, j, h => by
    have : j = 0 := by omega
    subst this; exact ⟨Int.le_refl _, Int.le_refl _⟩
  | k + 1, j, h => by
    have e1 : (allF lo hi r dl dh n (k + 1)).1 = min (allF lo hi r dl dh n k).1 (loadF lo r dl (n + k + 1)) := rfl
    have e2 : (allF lo hi r dl dh n (k + 1)).2 = max (allF lo hi r dl dh n k).2 (loadF hi r dh (n + k + 1)) := rfl
    rcases Nat.lt_succ_iff_lt_or_eq.1 (Nat.lt_succ_of_le h) with hj | rfl
    · have := allF_le lo hi r dl dh n k j (by omega)
      omega
    · rw [e1, e2, show n + (k + 1) = n + k + 1 by omega]; omega
theorem aftP_in {s : St} {r d m x : Int} {v : Pr} (hr : 0 ≤ r ∧ r ≤ 1000) (h0 : 0 ≤ s.ml) (hd : s.dl ≤ d ∧ d ≤ s.dh) (hm : s.ml ≤ m ∧ m ≤ s.mh) (hx : v.1 ≤ x ∧ x ≤ v.2) : (aftP s r v).1 ≤ loadF x r d m.toNat ∧ loadF x r d m.toNat ≤ (aftP s r v).2 := by
  have a := allF_le v.1 v.2 r s.dl s.dh s.ml.toNat (s.mh - s.ml).toNat (m - s.ml).toNat (by omega)
  rw [show s.ml.toNat + (m - s.ml).toNat = m.toNat by omega] at a
  have b := loadF_mono hr hx.1 hd.1 m.toNat
  have c := loadF_mono hr hx.2 hd.2 m.toNat
  unfold aftP
  omega
theorem held_in {ps rs : List Pr} {dive : List St} {xs ds ms : List Int} {kp : Bool} (hf : FitP rs dive xs ds ms) (hr : ∀ k, k < rs.length → 0 ≤ (rs.getD k (0, 0)).1 ∧ (rs.getD k (0, 0)).2 ≤ 1000) (hm : ∀ i, i < dive.length → 0 ≤ (dive.getD i st0).ml) :
    ∀ i, i ≤ dive.length → ∀ k, k < rs.length → ((atF ps rs dive (h0, kp) i).1 k (xs.getD k 0)).1 ≤ heldT xs ds ms i k ∧ heldT xs ds ms i k ≤ ((atF ps rs dive (h0, kp) i).1 k (xs.getD k 0)).2
  | 0, _, k, hk => by simp [atF, h0, heldT]
  | i + 1, hi, k, hk => by
    have ih := held_in (ps := ps) (kp := kp) hf hr hm i (by omega) k hk
    have h1 := hf.rate k hk
    have h2 := hr k hk
    exact aftP_in (s := dive.getD i st0) ⟨by omega, by omega⟩ (hm i (by omega)) (hf.depth i (by omega)) (hf.time i (by omega)) ih
theorem minOf_le (f : Int → Int) (lo : Int) (n : Nat) (x : Int) (h1 : lo ≤ x) (h2 : x ≤ lo + n) : minOf f lo (n + 1) ≤ f x := by
  have e : ∀ (n j : Nat), j < n → minOf f lo n ≤ f (lo + j) := by
    intro n
    induction n with
    | zero => intro j hj; omega
    | succ n ih =>
      intro j hj
      rcases Nat.lt_succ_iff_lt_or_eq.1 hj with h | rfl
      · have := ih j h; simp only [minOf]; omega
      · simp only [minOf]; omega
  have := e (n + 1) (x - lo).toNat (by omega)
  rwa [show lo + ((x - lo).toNat : Int) = x by omega] at this
theorem le_maxOf (f : Int → Int) (lo : Int) (n : Nat) (x : Int) (h1 : lo ≤ x) (h2 : x ≤ lo + n) : f x ≤ maxOf f lo (n + 1) := by
  have e : ∀ (n j : Nat), j < n → f (lo + j) ≤ maxOf f lo n := by
    intro n
    induction n with
    | zero => intro j hj; omega
    | succ n ih =>
      intro j hj
      rcases Nat.lt_succ_iff_lt_or_eq.1 hj with h | rfl
      · have := ih j h; simp only [maxOf]; omega
      · simp only [maxOf]; omega
  have := e (n + 1) (x - lo).toNat (by omega)
  rwa [show lo + ((x - lo).toNat : Int) = x by omega] at this
theorem least_le {rs : List Pr} (h : Nat → Int → Pr) {k : Nat} {x : Int} (hx : (rs.getD k (0, 0)).1 ≤ x ∧ x ≤ (rs.getD k (0, 0)).2) : leastF rs h k ≤ (h k x).1 ∧ (h k x).2 ≤ greatF rs h k := by
  unfold leastF greatF
  obtain ⟨n, e⟩ : ∃ n, ratesN (rs.getD k (0, 0)).1 (rs.getD k (0, 0)).2 = n + 1 := ⟨ratesN (rs.getD k (0, 0)).1 (rs.getD k (0, 0)).2 - 1, by unfold ratesN; omega⟩
  rw [e]
  have : x ≤ (rs.getD k (0, 0)).1 + n := by unfold ratesN at e; omega
  exact ⟨minOf_le (fun x => (h k x).1) _ n x hx.1 this, le_maxOf (fun x => (h k x).2) _ n x hx.1 this⟩
/-- What is held lies between the bounds. -/
theorem held_spans {ps rs : List Pr} {dive : List St} {xs ds ms : List Int} {kp : Bool} (hf : FitP rs dive xs ds ms) (hr : ∀ k, k < rs.length → 0 ≤ (rs.getD k (0, 0)).1 ∧ (rs.getD k (0, 0)).2 ≤ 1000) (hm : ∀ i, i < dive.length → 0 ≤ (dive.getD i st0).ml)
    {i k : Nat} (hi : i ≤ dive.length) (hk : k < rs.length) : leastF rs (atF ps rs dive (h0, kp) i).1 k ≤ heldT xs ds ms i k ∧ heldT xs ds ms i k ≤ greatF rs (atF ps rs dive (h0, kp) i).1 k := by
  have a := held_in (ps := ps) (kp := kp) hf hr hm i hi k hk
  have b := least_le (rs := rs) (atF ps rs dive (h0, kp) i).1 (hf.rate k hk)
  omega
/-- What surely keeps the limits does so in truth. -/
theorem held_kept {ps rs : List Pr} {dive : List St} {xs ds ms : List Int} (hf : FitP rs dive xs ds ms) (hr : ∀ k, k < rs.length → 0 ≤ (rs.getD k (0, 0)).1 ∧ (rs.getD k (0, 0)).2 ≤ 1000) (hm : ∀ i, i < dive.length → 0 ≤ (dive.getD i st0).ml)
    (hpl : ps.length = rs.length) (hps : ∀ k, k < ps.length → 0 ≤ (ps.getD k (0, 0)).2) (hs : enterB ps rs (folS ps rs (h0, true) dive).1 0 (folS ps rs (h0, true) dive).2 = true)
    {i k : Nat} (hi : i ≤ dive.length) (hk : k < rs.length) : heldT xs ds ms i k ≤ (ps.getD k (0, 0)).1 + (ps.getD k (0, 0)).2 * (if i < dive.length then ds.getD i 0 else 0) := by
  rw [folS_at] at hs
  obtain ⟨h1, h2⟩ := (enterB_iff _ _ _ _ _).1 hs
  have a := (held_spans (ps := ps) (kp := true) hf hr hm hi hk).2
  by_cases hn : i < dive.length
  · rw [if_pos hn]
    have b := (exceedsB_false _ _ _ _ _).1 (atF_kept ps rs dive (h0, true) _ h1 i hn k (by omega))
    have c := Int.mul_le_mul_of_nonneg_left (hf.depth i hn).1 (hps k (by omega))
    omega
  · rw [if_neg hn]
    have e : i = dive.length := by omega
    subst e
    have b := (exceedsB_false _ _ _ _ _).1 (h2 k (by omega))
    omega
end Go.Proofs
namespace Go.Proofs
open Go.RowKit Gas

theorem searchN_some (p : Int → Int → Bool) (ds : List Int) (hs : ds.Pairwise (· < ·)) : ∀ (k : Nat) (m d n : Int), searchN p ds k m = some (d, n) → d ∈ ds ∧ m ≤ n ∧ n < m + k ∧ p d n = true ∧ ∀ d' n' : Int, d' ∈ ds → m ≤ n' → p d' n' = true → n < n' ∨ n = n' ∧ d ≤ d'
  | 0, m, d, n, h => by cases h
  | k + 1, m, d, n, h => by
    unfold searchN at h
    split at h
    · rename_i x hf
      cases h
      obtain ⟨l1, l2, e, h1, h2⟩ := find_split hf
      subst e
      refine ⟨by simp, by omega, by omega, h1, fun d' n' hd hn hp => ?_⟩
      rcases Int.lt_or_eq_of_le hn with hlt | rfl
      · exact .inl hlt
      · refine .inr ⟨rfl, ?_⟩
        rcases List.mem_append.1 hd with hd | hd
        · rw [h2 d' hd] at hp; cases hp
        · rcases List.mem_cons.1 hd with rfl | hd
          · omega
          · have := (List.pairwise_cons.1 (List.pairwise_append.1 hs).2.1).1 d' hd
            omega
    · rename_i hf
      obtain ⟨a1, a2, a3, a4, a5⟩ := searchN_some p ds hs k (m + 1) d n h
      refine ⟨a1, by omega, by omega, a4, fun d' n' hd hn hp => ?_⟩
      rcases Int.lt_or_eq_of_le hn with hlt | rfl
      · exact a5 d' n' hd (by omega) hp
      · rw [find_no hf d' hd] at hp; cases hp
theorem searchN_none (p : Int → Int → Bool) (ds : List Int) : ∀ (k : Nat) (m : Int), searchN p ds k m = none → ∀ d' n' : Int, d' ∈ ds → m ≤ n' → n' < m + k → p d' n' = false
  | 0, m, h, d', n', hd, h1, h2 => by omega
  | k + 1, m, h, d', n', hd, h1, h2 => by
    unfold searchN at h
    split at h
    · cases h
    · rename_i hf
      rcases Int.lt_or_eq_of_le h1 with hlt | rfl
      · exact searchN_none p ds k (m + 1) h d' n' hd (by omega) (by omega)
      · exact find_no hf d' hd
theorem firstFrom_some (p : Int → Bool) : ∀ (n : Nat) (d m : Int), firstFrom p n d = some m → d ≤ m ∧ m < d + n ∧ p m = true ∧ ∀ x, d ≤ x → p x = true → m ≤ x
  | 0, d, m, h => by cases h
  | n + 1, d, m, h => by
    unfold firstFrom at h
    split at h
    · rename_i hp
      cases h
      exact ⟨by omega, by omega, hp, fun x hx _ => hx⟩
    · rename_i hp
      obtain ⟨a1, a2, a3, a4⟩ := firstFrom_some p n (d + 1) m h
      refine ⟨by omega, by omega, a3, fun x hx hpx => ?_⟩
      rcases Int.lt_or_eq_of_le hx with hlt | rfl
      · exact a4 x (by omega) hpx
      · exact absurd hpx hp
theorem firstFrom_none (p : Int → Bool) : ∀ (n : Nat) (d : Int), firstFrom p n d = none → ∀ x, d ≤ x → x < d + n → p x = false
  | 0, d, h, x, h1, h2 => by omega
  | n + 1, d, h, x, h1, h2 => by
    unfold firstFrom at h
    split at h
    · cases h
    · rename_i hp
      rcases Int.lt_or_eq_of_le h1 with hlt | rfl
      · exact firstFrom_none p n (d + 1) h x (by omega) (by omega)
      · simpa using hp
theorem searchD_some (p : Int → Int → Bool) (j : Nat) : ∀ (k : Nat) (d0 d n : Int), searchD p j k d0 = some (d, n) → d0 ≤ d ∧ d < d0 + k ∧ 1 ≤ n ∧ n < 1 + j ∧ p d n = true ∧ ∀ d' n' : Int, d0 ≤ d' → 1 ≤ n' → n' < 1 + j → p d' n' = true → d < d' ∨ d = d' ∧ n ≤ n'
  | 0, d0, d, n, h => by cases h
  | k + 1, d0, d, n, h => by
    unfold searchD at h
    split at h
    · rename_i m hf
      cases h
      obtain ⟨a1, a2, a3, a4⟩ := firstFrom_some _ _ _ _ hf
      refine ⟨by omega, by omega, a1, a2, a3, fun d' n' hd h1 h2 hp => ?_⟩
      rcases Int.lt_or_eq_of_le hd with hlt | rfl
      · exact .inl hlt
      · exact .inr ⟨rfl, a4 n' h1 hp⟩
    · rename_i hf
      obtain ⟨a1, a2, a3, a4, a5, a6⟩ := searchD_some p j k (d0 + 1) d n h
      refine ⟨by omega, by omega, a3, a4, a5, fun d' n' hd h1 h2 hp => ?_⟩
      rcases Int.lt_or_eq_of_le hd with hlt | rfl
      · exact a6 d' n' (by omega) h1 h2 hp
      · rw [firstFrom_none _ _ _ hf n' h1 h2] at hp; cases hp
theorem searchD_none (p : Int → Int → Bool) (j : Nat) : ∀ (k : Nat) (d0 : Int), searchD p j k d0 = none → ∀ d' n' : Int, d0 ≤ d' → d' < d0 + k → 1 ≤ n' → n' < 1 + j → p d' n' = false
  | 0, d0, h, d', n', h1, h2, _, _ => by omega
  | k + 1, d0, h, d', n', h1, h2, h3, h4 => by
    unfold searchD at h
    split at h
    · cases h
    · rename_i hf
      rcases Int.lt_or_eq_of_le h1 with hlt | rfl
      · exact searchD_none p j k (d0 + 1) h d' n' (by omega) (by omega) h3 h4
      · exact firstFrom_none _ _ _ hf n' h3 h4
end Go.Proofs
namespace Go.Proofs
open Go.RowKit Gas

/-- What is known better: each body that is left is known within closer bounds. -/
def CloseH (rs : List Pr) (h h' : Nat → Int → Pr) : Prop := ∀ k x, (rs.getD k (0, 0)).1 ≤ x → x ≤ (rs.getD k (0, 0)).2 → (h k x).1 ≤ (h' k x).1 ∧ (h' k x).2 ≤ (h k x).2
/-- Rates that are known better. -/
def CloseR (rs rs' : List Pr) : Prop := ∀ k, k < rs.length → (rs.getD k (0, 0)).1 ≤ (rs'.getD k (0, 0)).1 ∧ (rs'.getD k (0, 0)).1 ≤ (rs'.getD k (0, 0)).2 ∧ (rs'.getD k (0, 0)).2 ≤ (rs.getD k (0, 0)).2
structure CloseS (s s' : St) : Prop where
  d : s.dl ≤ s'.dl ∧ s'.dl ≤ s'.dh ∧ s'.dh ≤ s.dh
  m : 0 ≤ s.ml ∧ s.ml ≤ s'.ml ∧ s'.ml ≤ s'.mh ∧ s'.mh ≤ s.mh
def CloseP (ps ps' : List Pr) : Prop := ps'.length = ps.length ∧ ∀ k, k < ps.length → (ps.getD k (0, 0)).1 ≤ (ps'.getD k (0, 0)).1 ∧ (ps'.getD k (0, 0)).2 = (ps.getD k (0, 0)).2 ∧ 0 ≤ (ps.getD k (0, 0)).2
theorem allF_at (lo hi r dl dh : Int) (n : Nat) : ∀ k : Nat, (∃ j, j ≤ k ∧ (allF lo hi r dl dh n k).1 = loadF lo r dl (n + j)) ∧ ∃ j, j ≤ k ∧ (allF lo hi r dl dh n k).2 = loadF hi r dh (n + j)
  | 0 => ⟨⟨0, by omega, rfl⟩, ⟨0, by omega, rfl⟩⟩
  | k + 1 => by
    have e1 : (allF lo hi r dl dh n (k + 1)).1 = min (allF lo hi r dl dh n k).1 (loadF lo r dl (n + k + 1)) := rfl
    have e2 : (allF lo hi r dl dh n (k + 1)).2 = max (allF lo hi r dl dh n k).2 (loadF hi r dh (n + k + 1)) := rfl
    obtain ⟨⟨a, ha, ea⟩, ⟨b, hb, eb⟩⟩ := allF_at lo hi r dl dh n k
    constructor
    · rcases Int.le_total (allF lo hi r dl dh n k).1 (loadF lo r dl (n + k + 1)) with h | h
      · exact ⟨a, by omega, by rw [e1, Int.min_eq_left h, ea]⟩
      · exact ⟨k + 1, by omega, by rw [e1, Int.min_eq_right h]; rfl⟩
    · rcases Int.le_total (allF lo hi r dl dh n k).2 (loadF hi r dh (n + k + 1)) with h | h
      · exact ⟨k + 1, by omega, by rw [e2, Int.max_eq_right h]; rfl⟩
      · exact ⟨b, by omega, by rw [e2, Int.max_eq_left h, eb]⟩
theorem aftP_close {s s' : St} (hs : CloseS s s') {r : Int} (hr : 0 ≤ r ∧ r ≤ 1000) {v v' : Pr} (hv : v.1 ≤ v'.1 ∧ v'.2 ≤ v.2) : (aftP s r v).1 ≤ (aftP s' r v').1 ∧ (aftP s' r v').2 ≤ (aftP s r v).2 := by
  have hd := hs.d
  have hm := hs.m
  obtain ⟨⟨a, ha, ea⟩, ⟨b, hb, eb⟩⟩ := allF_at v'.1 v'.2 r s'.dl s'.dh s'.ml.toNat (s'.mh - s'.ml).toNat
  unfold aftP
  rw [ea, eb]
  have h1 := (allF_le v.1 v.2 r s.dl s.dh s.ml.toNat (s.mh - s.ml).toNat (s'.ml.toNat + a - s.ml.toNat) (by omega)).1
  have h2 := (allF_le v.1 v.2 r s.dl s.dh s.ml.toNat (s.mh - s.ml).toNat (s'.ml.toNat + b - s.ml.toNat) (by omega)).2
  rw [show s.ml.toNat + (s'.ml.toNat + a - s.ml.toNat) = s'.ml.toNat + a by omega] at h1
  rw [show s.ml.toNat + (s'.ml.toNat + b - s.ml.toNat) = s'.ml.toNat + b by omega] at h2
  have h3 := loadF_mono hr hv.1 hd.1 (s'.ml.toNat + a)
  have h4 := loadF_mono hr hv.2 hd.2.2 (s'.ml.toNat + b)
  omega
theorem CloseH.stay {rs' : List Pr} (hr : ∀ k, 0 ≤ (rs'.getD k (0, 0)).1 ∧ (rs'.getD k (0, 0)).2 ≤ 1000) {h h' : Nat → Int → Pr} (hc : CloseH rs' h h') {s s' : St} (hs : CloseS s s') : CloseH rs' (stayH h s) (stayH h' s') := by
  intro k x h1 h2
  have := hr k
  exact aftP_close hs ⟨by omega, by omega⟩ (hc k x h1 h2)
theorem minOf_at (f : Int → Int) (lo : Int) : ∀ n : Nat, ∃ j : Nat, (j < n ∨ j = 0) ∧ minOf f lo n = f (lo + j)
  | 0 => ⟨0, .inr rfl, by simp [minOf]⟩
  | n + 1 => by
    obtain ⟨j, hj, e⟩ := minOf_at f lo n
    rcases Int.le_total (minOf f lo n) (f (lo + n)) with h | h
    · exact ⟨j, by omega, by simp only [minOf]; rw [Int.min_eq_left h, e]⟩
    · exact ⟨n, by omega, by simp only [minOf]; rw [Int.min_eq_right h]⟩
theorem maxOf_at (f : Int → Int) (lo : Int) : ∀ n : Nat, ∃ j : Nat, (j < n ∨ j = 0) ∧ maxOf f lo n = f (lo + j)
  | 0 => ⟨0, .inr rfl, by simp [maxOf]⟩
  | n + 1 => by
    obtain ⟨j, hj, e⟩ := maxOf_at f lo n
    rcases Int.le_total (maxOf f lo n) (f (lo + n)) with h | h
    · exact ⟨n, by omega, by simp only [maxOf]; rw [Int.max_eq_right h]⟩
    · exact ⟨j, by omega, by simp only [maxOf]; rw [Int.max_eq_left h, e]⟩
theorem spans_close {rs rs' : List Pr} (hr : CloseR rs rs') {h h' : Nat → Int → Pr} (hc : CloseH rs' h h') {k : Nat} (hk : k < rs.length) : leastF rs h k ≤ leastF rs' h' k ∧ greatF rs' h' k ≤ greatF rs h k := by
  have hrk := hr k hk
  obtain ⟨a, ha, ea⟩ := minOf_at (fun x => (h' k x).1) (rs'.getD k (0, 0)).1 (ratesN (rs'.getD k (0, 0)).1 (rs'.getD k (0, 0)).2)
  obtain ⟨b, hb, eb⟩ := maxOf_at (fun x => (h' k x).2) (rs'.getD k (0, 0)).1 (ratesN (rs'.getD k (0, 0)).1 (rs'.getD k (0, 0)).2)
  have na : (rs'.getD k (0, 0)).1 + a ≤ (rs'.getD k (0, 0)).2 := by unfold ratesN at ha; omega
  have nb : (rs'.getD k (0, 0)).1 + b ≤ (rs'.getD k (0, 0)).2 := by unfold ratesN at hb; omega
  have h1 := (least_le (rs := rs) h (k := k) (x := (rs'.getD k (0, 0)).1 + a) ⟨by omega, by omega⟩).1
  have h2 := (least_le (rs := rs) h (k := k) (x := (rs'.getD k (0, 0)).1 + b) ⟨by omega, by omega⟩).2
  have h3 := (hc k ((rs'.getD k (0, 0)).1 + a) (by omega) na).1
  have h4 := (hc k ((rs'.getD k (0, 0)).1 + b) (by omega) nb).2
  have e1 : leastF rs' h' k = (h' k ((rs'.getD k (0, 0)).1 + a)).1 := ea
  have e2 : greatF rs' h' k = (h' k ((rs'.getD k (0, 0)).1 + b)).2 := eb
  omega
theorem enterB_close {ps ps' rs rs' : List Pr} (hp : CloseP ps ps') (hpl : ps.length = rs.length) (hr : CloseR rs rs') {h h' : Nat → Int → Pr} (hc : CloseH rs' h h') {d d' : Int} (hd : d ≤ d') {k k' : Bool} (hk : k = true → k' = true) (he : enterB ps rs h d k = true) : enterB ps' rs' h' d' k' = true := by
  rw [enterB_iff] at he ⊢
  refine ⟨hk he.1, fun p hlt => ?_⟩
  have hlt' : p < ps.length := by rw [← hp.1]; exact hlt
  have a := he.2 p hlt'
  rw [exceedsB_false] at a ⊢
  obtain ⟨b1, b2, b3⟩ := hp.2 p hlt'
  have c := (spans_close hr hc (k := p) (by omega)).2
  have e := Int.mul_le_mul_of_nonneg_left hd b3
  rw [b2]
  omega
theorem atF_close {ps ps' rs rs' : List Pr} (hp : CloseP ps ps') (hpl : ps.length = rs.length) (hr : CloseR rs rs') (hr' : ∀ k, 0 ≤ (rs'.getD k (0, 0)).1 ∧ (rs'.getD k (0, 0)).2 ≤ 1000) {dive dive' : List St} (hs : ∀ i, i < dive.length → CloseS (dive.getD i st0) (dive'.getD i st0)) :
    ∀ i, i ≤ dive.length → CloseH rs' (atF ps rs dive (h0, true) i).1 (atF ps' rs' dive' (h0, true) i).1 ∧ ((atF ps rs dive (h0, true) i).2 = true → (atF ps' rs' dive' (h0, true) i).2 = true)
  | 0, _ => ⟨fun k x _ _ => ⟨Int.le_refl _, Int.le_refl _⟩, fun _ => rfl⟩
  | i + 1, hi => by
    obtain ⟨a, b⟩ := atF_close hp hpl hr hr' hs i (by omega)
    have c := hs i (by omega)
    exact ⟨a.stay hr' c, fun hk => enterB_close hp hpl hr a c.d.1 b hk⟩
end Go.Proofs
namespace Go.Proofs
open Go.RowKit Gas

theorem folS_app (ps rs : List Pr) : ∀ (l1 l2 : List St) (a : FS), folS ps rs a (l1 ++ l2) = folS ps rs (folS ps rs a l1) l2
  | [], _, _ => rfl
  | _ :: l1, l2, _ => folS_app ps rs l1 l2 _
theorem stage_stop {d n : Int} (hd : 0 ≤ d ∧ d ≤ 40) (hn : 0 ≤ n ∧ n ≤ 120) : stageB (stayS d d n) = true := by
  show (ordB d d 0 40 6 && ordB n n 0 120 6) = true
  rw [Bool.and_eq_true]
  exact ⟨decide_eq_true (by omega), decide_eq_true (by omega)⟩
theorem stage_stay {l g n : Int} (ho : ordB l g 0 40 6 = true) (hn : 0 ≤ n ∧ n ≤ 120) : stageB (stayS l g n) = true := by
  simp only [stageB, stayS, ho, Bool.true_and]
  simp only [ordB, decide_eq_true_eq]; omega
theorem stage_top {l g : Int} (ho : ordB l g 0 120 6 = true) : stageB (topS l g) = true := by
  simp only [stageB, topS, ho, Bool.and_true]
  simp only [ordB, decide_eq_true_eq]; omega
theorem defined_room {ps rs : List Pr} {ss : List Int} {dive : List St} {r : Int} (h : definedB ps ss rs dive 0 = true) (hl : (dive.length : Int) + r ≤ 4) : definedB ps ss rs dive r = true := by
  simp only [definedB, diveB, Bool.and_eq_true, decide_eq_true_eq] at h ⊢
  exact ⟨h.1, hl, h.2.2⟩
theorem defined_app {ps rs : List Pr} {ss : List Int} {dive next : List St} (h : definedB ps ss rs dive 0 = true) (hn : ∀ s ∈ next, stageB s = true) (hl : dive.length + next.length ≤ 4) : definedB ps ss rs (dive ++ next) 0 = true := by
  simp only [definedB, diveB, Bool.and_eq_true, decide_eq_true_eq, List.all_append, List.length_append] at h ⊢
  exact ⟨h.1, by push_cast; omega, h.2.2, List.all_eq_true.2 hn⟩
theorem dive_stages {dive : List St} {r : Int} (h : diveB dive r = true) : ∀ s ∈ dive, stageB s = true := by
  simp only [diveB, Bool.and_eq_true, decide_eq_true_eq] at h
  exact fun s hs => List.all_eq_true.1 h.2 s hs
theorem incB_pair : ∀ (xs : List Int) (a : Int), incB a xs = true → xs.Pairwise (· < ·) ∧ ∀ x ∈ xs, a < x
  | [], _, _ => ⟨List.Pairwise.nil, by simp⟩
  | x :: r, a, h => by
    simp only [incB, inB, Bool.and_eq_true, decide_eq_true_eq] at h
    obtain ⟨h1, h2⟩ := incB_pair r x h.2
    refine ⟨List.pairwise_cons.2 ⟨h2, h1⟩, fun y hy => ?_⟩
    rcases List.mem_cons.1 hy with rfl | hy
    · omega
    · have := h2 y hy; omega
theorem defined_ssp {t : Tm} {dive : List St} {room : Int} (h : definedB t.ps t.ss t.rs dive room = true) : t.ss.Pairwise (· < ·) ∧ ∀ d ∈ t.ss, 1 ≤ d ∧ d ≤ 40 := by
  have h' := h
  simp only [definedB, tableB, manB, diveB, Bool.and_eq_true, decide_eq_true_eq] at h
  obtain ⟨h1, h2⟩ := incB_pair t.ss 0 h.1.1.2
  exact ⟨h1, fun d hd => ⟨by have := h2 d hd; omega, (defined_ss h' d hd).2⟩⟩
theorem kept_stop (t : Tm) (a : FS) (dive : List St) (d n : Int) : keptF t a (dive ++ [stayS d d n]) = ((folS t.ps t.rs a dive).2 && okS t.ps t.rs (folS t.ps t.rs a dive).1 d n) := by
  unfold keptF
  rw [folS_app]
  generalize folS t.ps t.rs a dive = f
  obtain ⟨h, k⟩ := f
  show enterB t.ps t.rs (stayH h (stayS d d n)) 0 (enterB t.ps t.rs h d k) = (k && okS t.ps t.rs h d n)
  unfold okS
  cases k
  · simp [enterB_false]
  · cases he : enterB t.ps t.rs h d true <;> simp [enterB_false]
theorem sure_stop {t : Tm} {dive : List St} (hdb : definedB t.ps t.ss t.rs dive 0 = true) (hl : dive.length < 4) {d n : Int} (hd : 0 ≤ d ∧ d ≤ 40) (hn : 0 ≤ n ∧ n ≤ 120) :
    sureF t (dive ++ [stayS d d n]) = ((folS t.ps t.rs (h0, true) dive).2 && okS t.ps t.rs (folS t.ps t.rs (h0, true) dive).1 d n, 0) := by
  unfold sureF
  rw [if_pos (defined_app hdb (by simpa using stage_stop hd hn) (by simp; omega)), kept_stop]
theorem stopF_ref {t : Tm} {dive : List St} (hdb : definedB t.ps t.ss t.rs dive 0 = true) (hl : dive.length < 4) :
    stopF t dive = (match refStR t.ps t.rs t.ss (folS t.ps t.rs (h0, true) dive) with | some s => (s, 0) | none => ((0, 0), 5)) := by
  unfold stopF
  rw [if_pos (defined_room hdb (by omega))]
  unfold stopR
  rw [stop_search]
  rfl
/-- What a stop is, after a dive with room for it. -/
def StopSem (t : Tm) (dive : List St) : Prop :=
  (keptF t (h0, true) dive = true ∧ stopF t dive = ((0, 0), 0)) ∨
  (keptF t (h0, true) dive = false ∧ stopF t dive = ((0, 0), 5) ∧ ∀ d n, d ∈ t.ss → 1 ≤ n → n ≤ 30 → sureF t (dive ++ [stayS d d n]) = (false, 0)) ∨
  (keptF t (h0, true) dive = false ∧ ∃ d n, stopF t dive = ((d, n), 0) ∧ d ∈ t.ss ∧ 1 ≤ n ∧ n ≤ 30 ∧ sureF t (dive ++ [stayS d d n]) = (true, 0) ∧
    ∀ d' n', d' ∈ t.ss → 1 ≤ n' → n' ≤ 30 → ∃ b, sureF t (dive ++ [stayS d' d' n']) = (b, 0) ∧ (b = true → n < n' ∨ n = n' ∧ d ≤ d'))
theorem stop_sem {t : Tm} {dive : List St} (hdb : definedB t.ps t.ss t.rs dive 0 = true) (hl : dive.length < 4) : StopSem t dive := by
  obtain ⟨hsp, hss⟩ := defined_ssp hdb
  have HS := fun (d n : Int) (hd : d ∈ t.ss) (h1 : 1 ≤ n) (h2 : n ≤ 30) => sure_stop hdb hl (d := d) (n := n) (by have := hss d hd; omega) (by omega)
  unfold StopSem
  rw [stopF_ref hdb hl]
  have hk : keptF t (h0, true) dive = enterB t.ps t.rs (folS t.ps t.rs (h0, true) dive).1 0 (folS t.ps t.rs (h0, true) dive).2 := rfl
  rw [hk]
  generalize folS t.ps t.rs (h0, true) dive = f at *
  obtain ⟨h, k⟩ := f
  simp only at HS ⊢
  cases k
  · refine .inr (.inl ⟨enterB_false _ _ _ _, by simp [refStR], fun d n hd h1 h2 => by rw [HS d n hd h1 h2, Bool.false_and]⟩)
  · cases he : enterB t.ps t.rs h 0 true
    · have e : refStR t.ps t.rs t.ss (h, true) = searchN (okS t.ps t.rs h) t.ss 30 1 := by simp [refStR, he]
      rw [e]
      cases hs : searchN (okS t.ps t.rs h) t.ss 30 1 with
      | none =>
        refine .inr (.inl ⟨rfl, rfl, fun d n hd h1 h2 => ?_⟩)
        rw [HS d n hd h1 h2, searchN_none _ _ _ _ hs d n hd h1 (by omega)]; rfl
      | some s =>
        obtain ⟨d, n⟩ := s
        obtain ⟨a1, a2, a3, a4, a5⟩ := searchN_some _ _ hsp _ _ _ _ hs
        refine .inr (.inr ⟨rfl, d, n, rfl, a1, a2, by omega, ?_, fun d' n' hd h1 h2 => ⟨_, HS d' n' hd h1 h2, fun hb => a5 d' n' hd h1 (by simpa using hb)⟩⟩)
        rw [HS d n a1 a2 (by omega), a4]; rfl
    · exact .inl ⟨rfl, by simp [refStR, he]⟩
/-- What a rest is, between two dives. -/
theorem sure_rest {t : Tm} {dive next : List St} (hdb : definedB t.ps t.ss t.rs dive 0 = true) (hnx : diveB next 0 = true) (hl : dive.length + next.length < 4) {n : Int} (hn : 0 ≤ n ∧ n ≤ 120) :
    sureF t ((dive ++ [stayS 0 0 n]) ++ next) = (waitP t.ps t.rs (folS t.ps t.rs (h0, true) dive) next n, 0) := by
  unfold sureF
  rw [if_pos (by
    rw [List.append_assoc]
    refine defined_app hdb (fun s hs => ?_) (by simp; omega)
    rcases List.mem_cons.1 (by simpa using hs) with rfl | hs
    · exact stage_stop (by omega) hn
    · exact dive_stages hnx s hs)]
  unfold keptF waitP
  rw [folS_app, folS_app]
  rfl
def RestSem (t : Tm) (dive next : List St) : Prop :=
  (keptF t (h0, true) dive = false ∧ waitF t dive next = (0, 7)) ∨ (keptF t (h0, true) dive = true ∧ waitF t dive next = (0, 5)) ∨
  (keptF t (h0, true) dive = true ∧ ∃ n, waitF t dive next = (n, 0) ∧ 0 ≤ n ∧ n ≤ 240 ∧ (n ≤ 120 → sureF t ((dive ++ [stayS 0 0 n]) ++ next) = (true, 0)) ∧ (1 ≤ n → n ≤ 120 → sureF t ((dive ++ [stayS 0 0 (n - 1)]) ++ next) = (false, 0)))
theorem rest_sem {t : Tm} {dive next : List St} (hdb : definedB t.ps t.ss t.rs dive 0 = true) (hnx : diveB next 0 = true) (hl : dive.length + next.length < 4) : RestSem t dive next := by
  have HS := fun (n : Int) (h1 : 0 ≤ n) (h2 : n ≤ 120) => sure_rest hdb hnx hl (n := n) ⟨h1, h2⟩
  unfold RestSem
  have e : waitF t dive next = if keptF t (h0, true) dive then optV (firstFrom (waitP t.ps t.rs (folS t.ps t.rs (h0, true) dive) next) 241 0) else (0, 7) := by
    unfold waitF
    rw [if_pos (by rw [hnx, defined_room hdb (by push_cast; omega)]; rfl)]
    rfl
  rw [e]
  generalize folS t.ps t.rs (h0, true) dive = f at *
  cases hk : keptF t (h0, true) dive
  · exact .inl ⟨rfl, rfl⟩
  · cases hf : firstFrom (waitP t.ps t.rs f next) 241 0 with
    | none => exact .inr (.inl ⟨rfl, rfl⟩)
    | some n =>
      obtain ⟨a1, a2, a3, a4⟩ := firstFrom_some _ _ _ _ hf
      refine .inr (.inr ⟨rfl, n, rfl, a1, by omega, fun h => by rw [HS n a1 h, a3], fun h1 h2 => ?_⟩)
      rw [HS (n - 1) (by omega) (by omega)]
      cases hp : waitP t.ps t.rs f next (n - 1)
      · rfl
      · have := a4 (n - 1) (by omega) hp; omega
/-- What the latest moment is. -/
def LateSem (t : Tm) (dive : List St) (l g : Int) : Prop :=
  ∃ L : Int, 0 ≤ L ∧ L ≤ 41 ∧ momF t dive l g = (latV L, momC t (folS t.ps t.rs (h0, true) dive) l g L, latE L) ∧
    (1 ≤ L → stopF t (dive ++ [stayS l g (L - 1)]) = (momC t (folS t.ps t.rs (h0, true) dive) l g L, 0)) ∧
    (∀ m, 0 ≤ m → m < L → (stopF t (dive ++ [stayS l g m])).2 = 0) ∧
    (L ≤ 40 → sureF t (dive ++ [stayS l g L]) = (false, 0) ∧ ∀ d n, d ∈ t.ss → 1 ≤ n → n ≤ 30 → sureF t ((dive ++ [stayS l g L]) ++ [stayS d d n]) = (false, 0))
theorem late_sem {t : Tm} {dive : List St} {l g : Int} (hdb : definedB t.ps t.ss t.rs dive 0 = true) (hl : dive.length + 1 < 4) (ho : ordB l g 0 40 6 = true) : LateSem t dive l g := by
  have hP : ∀ m, 0 ≤ m → m ≤ 40 → definedB t.ps t.ss t.rs (dive ++ [stayS l g m]) 0 = true := fun m h1 h2 => defined_app hdb (by simpa using stage_stay ho ⟨h1, by omega⟩) (by simp; omega)
  have hF : ∀ m, 0 ≤ m → m ≤ 40 → stopF t (dive ++ [stayS l g m]) = (match momR t (folS t.ps t.rs (h0, true) dive) l g m with | some s => (s, 0) | none => ((0, 0), 5)) := fun m h1 h2 => by
    unfold stopF
    rw [if_pos (defined_room (hP m h1 h2) (by simp; omega)), folS_app]
    rfl
  obtain ⟨b1, b2⟩ := lead_bd (momP t (folS t.ps t.rs (h0, true) dive) l g)
  have hT := fun m (h1 : 0 ≤ m) h2 => lead_true (p := momP t (folS t.ps t.rs (h0, true) dive) l g) (x := m) h1 h2
  refine ⟨lead (momP t (folS t.ps t.rs (h0, true) dive) l g), b1, b2, ?_, fun h => ?_, fun m h1 h2 => ?_, fun h => ?_⟩
  · unfold momF
    rw [if_pos (by rw [ho, defined_room hdb (by omega)]; rfl)]
  · generalize hL : lead (momP t (folS t.ps t.rs (h0, true) dive) l g) = L at *
    have h3 := hT (L - 1) (by omega) (by omega)
    rw [hF (L - 1) (by omega) (by omega)]
    unfold momC
    rw [if_neg (by omega)]
    unfold momP at h3
    cases hm : momR t (folS t.ps t.rs (h0, true) dive) l g (L - 1) with
    | none => rw [hm] at h3; cases h3
    | some s => rfl
  · have h3 := hT m h1 h2
    rw [hF m h1 (by omega)]
    unfold momP at h3
    cases hm : momR t (folS t.ps t.rs (h0, true) dive) l g m with
    | none => rw [hm] at h3; cases h3
    | some s => rfl
  · have hf := lead_false (p := momP t (folS t.ps t.rs (h0, true) dive) l g) (by omega)
    generalize lead (momP t (folS t.ps t.rs (h0, true) dive) l g) = L at *
    have hn : (stopF t (dive ++ [stayS l g L])) = ((0, 0), 5) := by
      rw [hF L (by omega) h]
      unfold momP at hf
      cases hm : momR t (folS t.ps t.rs (h0, true) dive) l g L with
      | none => rfl
      | some s => rw [hm] at hf; cases hf
    rcases stop_sem (hP L (by omega) h) (by simp; omega) with ⟨_, h2⟩ | ⟨h1, _, h3⟩ | ⟨_, d, n, h2, _⟩
    · rw [hn] at h2; cases h2
    · refine ⟨?_, h3⟩
      unfold sureF
      rw [if_pos (hP L (by omega) h), h1]
    · rw [hn] at h2; cases h2
end Go.Proofs
namespace Go.Proofs
open Go.RowKit Gas

theorem folS_one (ps rs : List Pr) (a : FS) (l : List St) (s : St) : folS ps rs a (l ++ [s]) = (stayH (folS ps rs a l).1 s, enterB ps rs (folS ps rs a l).1 s.dl (folS ps rs a l).2) := by
  rw [folS_app]; rfl
/-- What is held at the two moments of a chamber's stop. -/
theorem known_two {t : Tm} {late : List St} {s : St} (hdb : definedB t.ps t.ss t.rs (late ++ [s]) 0 = true) :
    (knownF t (late ++ [s])).length = late.length + 2 ∧ (knownF t (late ++ [s]))[late.length]? = some (spansOf t.rs (folS t.ps t.rs (h0, true) late).1 t.pn) ∧
    (knownF t (late ++ [s]))[late.length + 1]? = some (spansOf t.rs (stayH (folS t.ps t.rs (h0, true) late).1 s) t.pn) := by
  have e : knownF t (late ++ [s]) = knownL t.ps t.rs t.pn (h0, true) ((late ++ [s]) ++ [st0]) := by unfold knownF; rw [if_pos hdb]
  rw [e]
  refine ⟨by rw [knownL_len]; simp, ?_, ?_⟩
  · rw [knownL_at _ _ _ _ _ _ (by simp), atF_snoc _ _ _ _ _ _ (by simp), atF_snoc _ _ _ _ _ _ (by simp), folS_at]
  · rw [knownL_at _ _ _ _ _ _ (by simp), atF_snoc _ _ _ _ _ _ (by simp)]
    have := folS_at t.ps t.rs (late ++ [s]) (h0, true)
    rw [show (late ++ [s]).length = late.length + 1 by simp, folS_one] at this
    rw [← this]
def TreatSem (t : Tm) (dive : List St) (l g : Int) (h : Nat → Int → Pr) : Prop :=
  (∀ d n, 1 ≤ d → d ≤ 40 → 1 ≤ n → n ≤ 30 → definedB t.ps t.ss t.rs ((dive ++ [topS l g]) ++ [stayS d d n]) 0 = true ∧
    (knownF t ((dive ++ [topS l g]) ++ [stayS d d n])).length = dive.length + 3 ∧
    (knownF t ((dive ++ [topS l g]) ++ [stayS d d n]))[dive.length + 1]? = some (spansOf t.rs h t.pn) ∧
    (knownF t ((dive ++ [topS l g]) ++ [stayS d d n]))[dive.length + 2]? = some (spansOf t.rs (stayH h (stayS d d n)) t.pn)) ∧
  ((chamF t dive l g = ((0, 0), 5) ∧ ∀ d n, 1 ≤ d → d ≤ 40 → 1 ≤ n → n ≤ 30 → okS t.ps t.rs h d n = false) ∨
   (∃ d n, chamF t dive l g = ((d, n), 0) ∧ 1 ≤ d ∧ d ≤ 40 ∧ 1 ≤ n ∧ n ≤ 30 ∧ okS t.ps t.rs h d n = true ∧
     ∀ d' n', 1 ≤ d' → d' ≤ 40 → 1 ≤ n' → n' ≤ 30 → okS t.ps t.rs h d' n' = true → d < d' ∨ d = d' ∧ n ≤ n'))
theorem treat_sem {t : Tm} {dive : List St} {l g : Int} (hdb : definedB t.ps t.ss t.rs dive 0 = true) (hl : dive.length + 1 < 4) (ho : ordB l g 0 120 6 = true) :
    TreatSem t dive l g (stayH (folS t.ps t.rs (h0, true) dive).1 (topS l g)) := by
  refine ⟨fun d n d1 d2 n1 n2 => ?_, ?_⟩
  · have h1 : definedB t.ps t.ss t.rs (dive ++ [topS l g]) 0 = true := defined_app hdb (by simpa using stage_top ho) (by simp; omega)
    have h2 := defined_app h1 (next := [stayS d d n]) (by simpa using stage_stop (by omega) (by omega)) (by simp; omega)
    obtain ⟨a1, a2, a3⟩ := known_two h2
    rw [show (dive ++ [topS l g]).length = dive.length + 1 by simp, folS_one] at a2 a3
    rw [show (dive ++ [topS l g]).length = dive.length + 1 by simp] at a1
    exact ⟨h2, a1, a2, a3⟩
  · have e : chamF t dive l g = (match searchD (okS t.ps t.rs (stayH (folS t.ps t.rs (h0, true) dive).1 (topS l g))) 30 40 1 with | some s => (s, 0) | none => ((0, 0), 5)) := by
      unfold chamF
      rw [if_pos (by rw [ho, defined_room hdb (by omega)]; rfl)]
      unfold chamR
      rw [cham_search]
      rfl
    rw [e]
    generalize stayH (folS t.ps t.rs (h0, true) dive).1 (topS l g) = h
    cases hs : searchD (okS t.ps t.rs h) 30 40 1 with
    | none => exact .inl ⟨rfl, fun d n d1 d2 n1 n2 => searchD_none _ _ _ _ hs d n d1 (by omega) n1 (by omega)⟩
    | some s =>
      obtain ⟨d, n⟩ := s
      obtain ⟨a1, a2, a3, a4, a5, a6⟩ := searchD_some _ _ _ _ _ _ hs
      exact .inr ⟨d, n, rfl, a1, by omega, a3, by omega, a5, fun d' n' d1 d2 n1 n2 hk => a6 d' n' d1 n1 (by omega) hk⟩
theorem okS_iff (ps rs : List Pr) (h : Nat → Int → Pr) (d n : Int) : okS ps rs h d n = (enterB ps rs h d true && enterB ps rs (stayH h (stayS d d n)) 0 true) := rfl

/-- Spans that are known better. -/
def narP (a b : Int) (p : Pr) : Pr := (p.1 + ((p.2 - p.1) * a).tdiv 100, p.1 + ((p.2 - p.1) * b).tdiv 100)
theorem narP_in {a b : Int} (ha : 0 ≤ a) (hab : a ≤ b) (hb : b ≤ 100) {p : Pr} (hp : p.1 ≤ p.2) : p.1 ≤ (narP a b p).1 ∧ (narP a b p).1 ≤ (narP a b p).2 ∧ (narP a b p).2 ≤ p.2 := by
  obtain ⟨l, g⟩ := p
  simp only at hp
  have m4 : 0 ≤ (g - l) * a := Int.mul_nonneg (by omega) ha
  have m4b : (g - l) * a ≤ (g - l) * b := Int.mul_le_mul_of_nonneg_left hab (by omega)
  have m5 : (g - l) * b ≤ (g - l) * 100 := Int.mul_le_mul_of_nonneg_left hb (by omega)
  have e4 : ((g - l) * a).tdiv 100 = ((g - l) * a) / 100 := Int.tdiv_eq_ediv_of_nonneg m4
  have e5 : ((g - l) * b).tdiv 100 = ((g - l) * b) / 100 := Int.tdiv_eq_ediv_of_nonneg (by omega)
  simp only [narP]
  rw [e4, e5]
  omega
def narS (a b : Int) (s : St) : St := ⟨(narP a b (s.dl, s.dh)).1, (narP a b (s.dl, s.dh)).2, (narP a b (s.ml, s.mh)).1, (narP a b (s.ml, s.mh)).2⟩
def easP (c : Int) (p : Pr) : Pr := (min 20000 (p.1 + c), p.2)
theorem stage_ord {s : St} (h : stageB s = true) : (0 ≤ s.dl ∧ s.dl ≤ s.dh ∧ s.dh ≤ 40 ∧ s.dh - s.dl ≤ 6) ∧ 0 ≤ s.ml ∧ s.ml ≤ s.mh ∧ s.mh ≤ 120 ∧ s.mh - s.ml ≤ 6 := by
  simpa only [stageB, ordB, Bool.and_eq_true, decide_eq_true_eq] using h
theorem narS_close {a b : Int} (ha : 0 ≤ a) (hab : a ≤ b) (hb : b ≤ 100) {s : St} (h : stageB s = true) : CloseS s (narS a b s) ∧ stageB (narS a b s) = true := by
  have h' := stage_ord h
  obtain ⟨x1, x2, x3⟩ := narP_in ha hab hb (p := (s.dl, s.dh)) h'.1.2.1
  obtain ⟨y1, y2, y3⟩ := narP_in ha hab hb (p := (s.ml, s.mh)) h'.2.2.1
  simp only at x1 x3 y1 y3
  refine ⟨⟨by simp only [narS]; omega, by simp only [narS]; omega⟩, ?_⟩
  show (ordB (narP a b (s.dl, s.dh)).1 (narP a b (s.dl, s.dh)).2 0 40 6 && ordB (narP a b (s.ml, s.mh)).1 (narP a b (s.ml, s.mh)).2 0 120 6) = true
  rw [Bool.and_eq_true]
  exact ⟨decide_eq_true (by omega), decide_eq_true (by omega)⟩
structure MoreSem (t t' : Tm) (dive dive' : List St) : Prop where
  len : (knownL t.ps t.rs t.pn (h0, true) (dive ++ [st0])).length = dive.length + 1 ∧ (knownL t'.ps t'.rs t'.pn (h0, true) (dive' ++ [st0])).length = dive.length + 1
  known : ∀ i, i ≤ dive.length → ∃ sp sp', (knownL t.ps t.rs t.pn (h0, true) (dive ++ [st0]))[i]? = some sp ∧ (knownL t'.ps t'.rs t'.pn (h0, true) (dive' ++ [st0]))[i]? = some sp' ∧
    ∀ k, k < t.pn → ∃ lo hi lo' hi', sp[k]? = some (lo, hi) ∧ sp'[k]? = some (lo', hi') ∧ lo ≤ lo' ∧ hi' ≤ hi
  sure : keptF t (h0, true) dive = true → keptF t' (h0, true) dive' = true
  stop : dive.length < 4 → ∀ d n, stopF t dive = ((d, n), 0) → ∃ d' n', stopF t' dive' = ((d', n'), 0) ∧ n' ≤ n
theorem more_sem {t t' : Tm} {dive dive' : List St} (hdb : definedB t.ps t.ss t.rs dive 0 = true) (hdb' : definedB t'.ps t'.ss t'.rs dive' 0 = true) (hpn : t'.pn = t.pn) (hps : t.ps.length = t.pn) (hss : t'.ss = t.ss)
    (hp : CloseP t.ps t'.ps) (hr : CloseR t.rs t'.rs) (hl : dive'.length = dive.length) (hs : ∀ i, i < dive.length → CloseS (dive.getD i st0) (dive'.getD i st0)) : MoreSem t t' dive dive' := by
  have hd2 := hdb
  simp only [definedB, tableB, manB, diveB, Bool.and_eq_true, decide_eq_true_eq] at hd2
  have hd3 := hdb'
  simp only [definedB, tableB, manB, diveB, Bool.and_eq_true, decide_eq_true_eq] at hd3
  have hpl : t.ps.length = t.rs.length := by omega
  have hrl' : t'.rs.length = t.rs.length := by have := hp.1; omega
  have hr' : ∀ k, 0 ≤ (t'.rs.getD k (0, 0)).1 ∧ (t'.rs.getD k (0, 0)).2 ≤ 1000 := fun k => by
    by_cases hk : k < t'.rs.length
    · have := rate_wide hd3.1.2.2 hk; omega
    · simp [List.getD_eq_getElem?_getD, List.getElem?_eq_none (Nat.le_of_not_lt hk)]
  have hat := fun i hi => atF_close hp hpl hr hr' hs i hi
  have hfol := hat dive.length (Nat.le_refl _)
  have e1 : atF t.ps t.rs dive (h0, true) dive.length = folS t.ps t.rs (h0, true) dive := (folS_at _ _ _ _).symm
  have e2 : atF t'.ps t'.rs dive' (h0, true) dive.length = folS t'.ps t'.rs (h0, true) dive' := by rw [← hl]; exact (folS_at _ _ _ _).symm
  rw [e1, e2] at hfol
  refine ⟨⟨by rw [knownL_len]; simp, by rw [knownL_len]; simp [hl]⟩, fun i hi => ⟨_, _, knownL_at _ _ _ _ _ _ (by simp; omega), knownL_at _ _ _ _ _ _ (by simp; omega), fun k hk => ?_⟩, fun h => ?_, fun hl4 d n h => ?_⟩
  · rw [atF_snoc _ _ _ _ _ _ hi, atF_snoc _ _ _ _ _ _ (by omega)]
    have hc := spans_close hr (hat i hi).1 (k := k) (by omega)
    exact ⟨_, _, _, _, by simp [spansOf, hk], by simp [spansOf, hpn, hk], hc.1, hc.2⟩
  · exact enterB_close hp hpl hr hfol.1 (Int.le_refl 0) hfol.2 h
  · rw [stopF_ref hdb hl4] at h
    rw [stopF_ref hdb' (by omega), hss]
    generalize folS t.ps t.rs (h0, true) dive = f at *
    generalize folS t'.ps t'.rs (h0, true) dive' = f' at *
    obtain ⟨h1, k⟩ := f
    obtain ⟨h2, k'⟩ := f'
    obtain ⟨hc, hk⟩ := hfol
    simp only at hc hk
    cases k
    · simp [refStR] at h
    · have hk' := hk rfl
      subst hk'
      cases he' : enterB t'.ps t'.rs h2 0 true
      · have he : enterB t.ps t.rs h1 0 true = false := by
          cases he : enterB t.ps t.rs h1 0 true
          · rfl
          · rw [enterB_close hp hpl hr hc (Int.le_refl 0) (fun h => h) he] at he'; cases he'
        obtain ⟨hsp, hsm⟩ := defined_ssp hdb
        simp only [refStR, he, he', if_true, Bool.false_eq_true, if_false] at h ⊢
        have hok : ∀ d n : Int, 0 ≤ n → okS t.ps t.rs h1 d n = true → okS t'.ps t'.rs h2 d n = true := fun d n hn ho => by
          simp only [okS, Bool.and_eq_true] at ho ⊢
          refine ⟨enterB_close hp hpl hr hc (Int.le_refl d) (fun h => h) ho.1, enterB_close hp hpl hr (hc.stay hr' ⟨?_, ?_⟩) (Int.le_refl 0) (fun h => h) ho.2⟩
          · simp [stayS]
          · simp only [stayS]; omega
        cases hs1 : searchN (okS t.ps t.rs h1) t.ss 30 1 with
        | none => rw [hs1] at h; cases h
        | some s =>
          rw [hs1] at h
          obtain ⟨ds, ns⟩ := s
          simp only [Prod.mk.injEq, and_true] at h
          obtain ⟨rfl, rfl⟩ := h
          obtain ⟨a1, a2, a3, a4, _⟩ := searchN_some _ _ hsp _ _ _ _ hs1
          have a4' := hok _ _ (by omega) a4
          cases hs2 : searchN (okS t'.ps t'.rs h2) t.ss 30 1 with
          | none => rw [searchN_none _ _ _ _ hs2 _ _ a1 a2 (by omega)] at a4'; cases a4'
          | some s2 =>
            obtain ⟨d2, n2⟩ := s2
            obtain ⟨_, _, _, _, b5⟩ := searchN_some _ _ hsp _ _ _ _ hs2
            exact ⟨d2, n2, rfl, by have := b5 _ _ a1 a2 a4'; omega⟩
      · refine ⟨0, 0, by simp [refStR, he'], ?_⟩
        cases he : enterB t.ps t.rs h1 0 true
        · simp only [refStR, he, if_true, Bool.false_eq_true, if_false] at h
          cases hs1 : searchN (okS t.ps t.rs h1) t.ss 30 1 with
          | none => rw [hs1] at h; cases h
          | some s =>
            rw [hs1] at h
            obtain ⟨ds, ns⟩ := s
            simp only [Prod.mk.injEq, and_true] at h
            obtain ⟨rfl, rfl⟩ := h
            obtain ⟨_, a2, _⟩ := searchN_some _ _ (defined_ssp hdb).1 _ _ _ _ hs1
            omega
        · simp only [refStR, he, if_true] at h
          simp only [Prod.mk.injEq, and_true] at h
          omega
end Go.Proofs
namespace Go.Proofs
open Go.RowKit Go.Shelf Gas
attribute [local go_sem ↓] Go.wp_at_zero Go.wp_at_succ

/-- Whether a stop is one of a table. -/
def listB (ss : List Int) (d m : Int) : Bool := ss.contains d && decide (1 ≤ m ∧ m ≤ 30)
theorem stopped_c (A : Option Addr) (n c : Nat) (dive : List St) (hA : A = none → c = 0) (hn : n ≤ 1000) (d m : Int) (w : World) (hd : SlOf St.cs 4 w A n dive) :
    Calls Tryz.prog 19 #[.slice A n c, .agg #[.int .i64 d, .int .i64 m]] w fun e w' => ∃ g cap, e = .returned (.slice (some ⟨g, 0, none⟩) (n + 1) cap) ∧ SlOf St.cs 4 w' (some ⟨g, 0, none⟩) (n + 1) (dive ++ [stayS d d m]) ∧ Below w.heap.size w w' := by
  have HM := Lib.hid fun (W : World) (hb : Below w.heap.size w W) => More_c A n c dive hA hn d d m m W (hd.keep hb)
  have P0 := Lib.hid (Has.new w 31 #[.int .i64 d, .int .i64 m])
  have B0 := Lib.hid (newB (Below.refl w.heap.size w) (.cells #[.int .i64 d, .int .i64 m] 31))
  clear hd hA
  go_enter Tryz.func19, Tryz.ntmps19
  go_wp2
  generalize w.alloc (.cells #[.int .i64 d, .int .i64 m] 31) = w1 at *
  apply wp_loose 9 (.v (.slice A n c) :: .v (.pointer (some ⟨w.heap.size, 0, none⟩)) :: .v (.int .i64 d) :: .v (.agg #[.int .i64 d, .int .i64 d]) :: .v (.pointer (some ⟨w.heap.size, 1, none⟩)) :: .v (.int .i64 m) :: .v (.agg #[.int .i64 m, .int .i64 m]) :: .r (fun v w' => ∃ g0 cap, v = .slice (some ⟨g0, 0, none⟩) (n + 1) cap ∧ SlOf St.cs 4 w' (some ⟨g0, 0, none⟩) (n + 1) (dive ++ [stayS d d m])) :: .r (fun v w' => ∃ g0 cap, v = .slice (some ⟨g0, 0, none⟩) (n + 1) cap ∧ SlOf St.cs 4 w' (some ⟨g0, 0, none⟩) (n + 1) (dive ++ [stayS d d m])) :: []) (by kernel_rfl) (by kernel_rfl) (by kernel_rfl) (by decide) rfl
  intro K hK
  refine OblS.val (by kernel_rfl) (fun w' _ _ => (by kernel_rfl)) ?_
  refine OblS.val (by kernel_rfl) (fun w' _ _ => (by kernel_rfl)) ?_
  refine OblS.val (by kernel_rfl) (fun w' hb _ => (by have := (P0.out.after hb).cell 0; have := (P0.out.after hb).cell 1; go_simp; try rfl)) ?_
  refine OblS.call 61 (by kernel_rfl) (fun w' hb _ => ⟨_, (by kernel_rfl), refJust_c _ w'⟩) ?_
  refine OblS.val (by kernel_rfl) (fun w' _ _ => (by kernel_rfl)) ?_
  refine OblS.val (by kernel_rfl) (fun w' hb _ => (by have := (P0.out.after hb).cell 0; have := (P0.out.after hb).cell 1; go_simp; try rfl)) ?_
  refine OblS.call 61 (by kernel_rfl) (fun w' hb _ => ⟨_, (by kernel_rfl), refJust_c _ w'⟩) ?_
  refine OblS.callR 23 (by rintro v x y ⟨g0, cap, e, h⟩ hb; exact ⟨g0, cap, e, h.keep hb⟩) (by kernel_rfl) (fun w' hb _ => ⟨#[.slice A n c, .agg #[.int .i64 d, .int .i64 d], .agg #[.int .i64 m, .int .i64 m]], (by kernel_rfl), (HM.out w' (nextB B0.out hb)).mono fun e x ⟨g0, cap, h1, h2, h3⟩ => ⟨_, h1, ⟨g0, cap, rfl, h2⟩, h3⟩⟩) ?_
  intro v6
  refine OblS.run (by rintro v x y ⟨g0, cap, e, h⟩ hb; exact ⟨g0, cap, e, h.keep hb⟩) (by kernel_rfl) (fun w' hb hH => ?_) ?_
  · obtain ⟨g0, cap, e, hsl⟩ := hH _ (List.mem_cons_self ..) (by kernel_rfl)
    exact ⟨v6, w', (by kernel_rfl), ⟨g0, cap, e, hsl⟩, Below.refl _ _⟩
  intro v7
  apply OblS.nil
  apply hK
  intro w5 hb hH
  obtain ⟨g0, cap, rfl, hsl⟩ := hH _ (List.mem_cons_self ..)
  have HS := Lib.hid hsl
  have HB := Lib.hid (nextB B0.out hb)
  clear hH hK K hb hsl
  simp only [Act.put, List.setIfInBounds_toArray, List.set_cons_zero, List.set_cons_succ, List.drop_succ_cons, List.drop_zero]
  go_wp2
  exact bodyPost_ret (results_tmp rfl _ _ _) rfl ⟨g0, cap, rfl, HS.out, HB.out⟩

set_option maxRecDepth 50000 in
theorem rested_c (A A2 : Option Addr) (n c n2 c2 : Nat) (dive next : List St) (hA : A = none → c = 0) (hA2 : A2 = none → c2 = 0) (hn : n ≤ 1000) (hn2 : n2 ≤ 1000) (m : Int) (w : World) (hd : SlOf St.cs 4 w A n dive) (hd2 : SlOf St.cs 4 w A2 n2 next) :
    Calls Tryz.prog 29 #[.slice A n c, .int .i64 m, .slice A2 n2 c2] w fun e w' => ∃ g cap, e = .returned (.slice (some ⟨g, 0, none⟩) (n + 1 + n2) cap) ∧ SlOf St.cs 4 w' (some ⟨g, 0, none⟩) (n + 1 + n2) ((dive ++ [stayS 0 0 m]) ++ next) ∧ Below w.heap.size w w' := by
  have HM := Lib.hid fun (W : World) (hb : Below w.heap.size w W) => more_o A n c dive hA hn 0 0 m m W (hd.keep hb)
  have HD2 := Lib.hid hd2
  have HA2 := Lib.hid hA2
  have HR := Lib.hid fun (v : Value) (w' : World) (h : w'.ownsRow w.heap.size 80 4 v (n + 1 + n2) (flat St.cs ((dive ++ [stayS 0 0 m]) ++ next))) (hb : Below w.heap.size w w') => (show ∃ g cap, v = .slice (some ⟨g, 0, none⟩) (n + 1 + n2) cap ∧ SlOf St.cs 4 w' (some ⟨g, 0, none⟩) (n + 1 + n2) ((dive ++ [stayS 0 0 m]) ++ next) ∧ Below w.heap.size w w' from by
    have ho : OwnsSt w (n + 1 + n2) ((dive ++ [stayS 0 0 m]) ++ next) (.returned v) w' := ⟨v, rfl, h, hb⟩
    obtain ⟨g, cap, e1, h1, h2⟩ := ho.row (by omega)
    cases e1
    exact ⟨g, cap, rfl, h1.sl St.cs_len, h2⟩)
  clear hd hA hd2 hA2
  go_enter Tryz.func29, Tryz.ntmps29
  go_wp2_with (first
    | (go_at_call 23; refine (HM.out _ HB2.out).mono ?_; rintro e w3 ⟨v3, rfl, ho3, hb⟩; have HO3 := Lib.hid (owns_base HB2.out.size ho3); have HB3 := Lib.hid (nextB HB2.out hb); clear hb ho3)
    | (go_at_call 61; refine (refJust_c m _).mono ?_; rintro e w2 ⟨rfl, hb⟩; have HB2 := Lib.hid (nextB HB1.out hb); clear hb)
    | (go_at_call 61; refine (refJust_c 0 _).mono ?_; rintro e w1 ⟨rfl, hb⟩; have HB1 := Lib.hid hb; clear hb)
    | (at_builtin; refine wpList_app54 rfl _ _ rfl w.heap.size v3 (n + 1) _ rfl HO3.out A2 n2 c2 next rfl HA2.out (HD2.out.keep HB3.out) (by omega) HB3.out.size ?_; intro v4 w4 ho4 hb4; have HO4 := Lib.hid ho4; have HB4 := Lib.hid (HB3.out.trans hb4); clear ho4 hb4))
  exact bodyPost_ret (results_tmp rfl _ _ _) rfl (by obtain ⟨g, cap, rfl, h1, h2⟩ := HR.out _ _ HO4.out HB4.out; exact ⟨g, cap, rfl, h1, h2⟩)

theorem listed_c (t : Tm) (hsn : t.sn ≤ 1000000) (d m : Int) (w : World) (hs : SlOf inC 1 w t.sA t.sn t.ss) :
    Calls Tryz.prog 18 #[t.tab, .agg #[.int .i64 d, .int .i64 m]] w fun e w' => e = .returned (.bool (listB t.ss d m)) ∧ Below w.heap.size w w' := by
  obtain ⟨pA, sA, rA, pn, pc, sn, sc, rn, rc, ps, ss, rs⟩ := t
  simp only [Tm.tab] at *
  have HS := Lib.hid hs
  have HSN := Lib.hid hs.1
  clear hs
  have B0 := Lib.hid (newB (newB (Below.refl w.heap.size w) (.cells #[.slice pA pn pc, .slice sA sn sc] 25)) (.cells #[.int .i64 d, .int .i64 m] 31))
  have P0 := Lib.hid ((Has.new w 25 #[.slice pA pn pc, .slice sA sn sc]).alloc (.cells #[.int .i64 d, .int .i64 m] 31))
  have Q0 := Lib.hid (Has.new' (w.alloc (.cells #[.slice pA pn pc, .slice sA sn sc] 25)) 31 #[.int .i64 d, .int .i64 m] (g := w.heap.size + 1) (by simp))
  go_enter Tryz.func18, Tryz.ntmps18
  go_wp2
  go_loopw [5] (fun v wr => ∃ k : Nat, k ≤ sn ∧ v = .int .i64 k ∧ Below w.heap.size w wr ∧ Has wr w.heap.size 25 #[.slice pA pn pc, .slice sA sn sc] ∧ Has wr (w.heap.size + 1) 31 #[.int .i64 d, .int .i64 m] ∧ ∀ (j : Nat) x, j < k → ss[j]? = some x → (x != d) = true) (fun v _ => sn - (intOf v).toNat)
  case atStart => exact ⟨0, by omega, rfl, B0.out, P0.out, Q0.out, fun j x hj => absurd hj (by omega)⟩
  case round =>
    obtain ⟨k, hk, rfl, hB, hP, hQ, hA⟩ := hrel
    have HB := Lib.hid hB; have HA := Lib.hid hA; have HP := Lib.hid hP; have HQ := Lib.hid hQ
    have hz := hB.size; have hcell := hP.cell
    clear hB hA hP hQ
    by_cases hkn : k < sn
    · have hkl : k < ss.length := by rw [HSN.out]; exact hkn
      obtain ⟨b, o, he⟩ := HS.out.addr (by omega)
      have hx := List.getElem?_eq_getElem hkl
      obtain ⟨x, hxx⟩ : ∃ x, x = ss[k] := ⟨_, rfl⟩
      rw [← hxx] at hx
      subst he
      have HX := Lib.hid hx
      have CC := Lib.hid (show wr.cell? ⟨b, o + k, none⟩ = some (.int .i64 x) by simpa using (HS.out.keep HB.out).range inC_len hx 0 _ rfl)
      clear hx hxx
      by_cases hxd : x = d
      · subst hxd
        have HL := Lib.hid (show listB ss x m = decide (1 ≤ m ∧ m ≤ 30) by
          have : x ∈ ss := List.mem_of_getElem? HX.out
          simp [listB, this])
        by_cases h1 : 1 ≤ m
        · by_cases h2 : m ≤ 30
          · have HV := Lib.hid (HL.out.trans (decide_eq_true ⟨h1, h2⟩))
            go_wp2
            refine wp_free 8 (by kernel_rfl) (by kernel_rfl) (by kernel_rfl) (by decide) ?_
            intro K hK
            iterate 8 (apply Obl.val (by decide) (by kernel_rfl); (intro w' hb; have := (HP.out.after hb).cell; have := (HQ.out.after hb).cell; have := ccell hb CC.out; go_simp; try rfl))
            apply Obl.nil
            apply hK
            intro w2 hb
            simp only [Act.put, List.setIfInBounds_toArray, List.set_cons_zero, List.set_cons_succ, List.drop_succ_cons, List.drop_zero]
            clear hK K
            have HB2 := Lib.hid (nextB HB.out hb); have HP2 := Lib.hid (HP.out.after hb); have HQ2 := Lib.hid (HQ.out.after hb); have cq := (HQ.out.after hb).cell
            clear hb hcell
            go_wp2
            exact bodyPost_ret (results_tmp rfl _ _ _) rfl ⟨by rw [HV.out]; first | rfl | simp [h2], HB2.out⟩
          · have HV := Lib.hid (HL.out.trans (decide_eq_false (by omega)))
            go_wp2
            refine wp_free 8 (by kernel_rfl) (by kernel_rfl) (by kernel_rfl) (by decide) ?_
            intro K hK
            iterate 8 (apply Obl.val (by decide) (by kernel_rfl); (intro w' hb; have := (HP.out.after hb).cell; have := (HQ.out.after hb).cell; have := ccell hb CC.out; go_simp; try rfl))
            apply Obl.nil
            apply hK
            intro w2 hb
            simp only [Act.put, List.setIfInBounds_toArray, List.set_cons_zero, List.set_cons_succ, List.drop_succ_cons, List.drop_zero]
            clear hK K
            have HB2 := Lib.hid (nextB HB.out hb); have HP2 := Lib.hid (HP.out.after hb); have HQ2 := Lib.hid (HQ.out.after hb); have cq := (HQ.out.after hb).cell
            clear hb hcell
            go_wp2
            exact bodyPost_ret (results_tmp rfl _ _ _) rfl ⟨by rw [HV.out]; first | rfl | simp [h2], HB2.out⟩
        · have HV := Lib.hid (HL.out.trans (decide_eq_false (by omega)))
          go_wp2
          refine wp_free 8 (by kernel_rfl) (by kernel_rfl) (by kernel_rfl) (by decide) ?_
          intro K hK
          iterate 8 (apply Obl.val (by decide) (by kernel_rfl); (intro w' hb; have := (HP.out.after hb).cell; have := (HQ.out.after hb).cell; have := ccell hb CC.out; go_simp; try rfl))
          apply Obl.nil
          apply hK
          intro w2 hb
          simp only [Act.put, List.setIfInBounds_toArray, List.set_cons_zero, List.set_cons_succ, List.drop_succ_cons, List.drop_zero]
          clear hK K
          have HB2 := Lib.hid (nextB HB.out hb); have HP2 := Lib.hid (HP.out.after hb); have HQ2 := Lib.hid (HQ.out.after hb); have cq := (HQ.out.after hb).cell
          clear hb hcell
          go_wp2
          exact bodyPost_ret (results_tmp rfl _ _ _) rfl ⟨by rw [HV.out]; first | rfl | simp [h1], HB2.out⟩
      · go_wp2
        refine wp_free 8 (by kernel_rfl) (by kernel_rfl) (by kernel_rfl) (by decide) ?_
        intro K hK
        iterate 8 (apply Obl.val (by decide) (by kernel_rfl); (intro w' hb; have := (HP.out.after hb).cell; have := (HQ.out.after hb).cell; have := ccell hb CC.out; go_simp; try rfl))
        apply Obl.nil
        apply hK
        intro w2 hb
        simp only [Act.put, List.setIfInBounds_toArray, List.set_cons_zero, List.set_cons_succ, List.drop_succ_cons, List.drop_zero]
        clear hK K
        have HB2 := Lib.hid (nextB HB.out hb); have HP2 := Lib.hid (HP.out.after hb); have HQ2 := Lib.hid (HQ.out.after hb); have cq := (HQ.out.after hb).cell
        clear hb hcell
        go_wp2
        go_roundw
        case rel => exact ⟨k + 1, by omega, by go_num, HB2.out, HP2.out, HQ2.out, all_next HA.out HX.out (by simpa using hxd)⟩
        case measure => simp [intOf]; omega
    · have HV := Lib.hid (show listB ss d m = false by
        have : ¬ d ∈ ss := fun hm => by
          obtain ⟨j, hj, e⟩ := List.getElem_of_mem hm
          have := HA.out j d (by have := HSN.out; omega) (by rw [List.getElem?_eq_getElem hj, e])
          simp at this
        simp [listB, this])
      go_wp2
      exact bodyPost_ret (results_tmp rfl _ _ _) rfl ⟨by rw [HV.out]; rfl, HB.out⟩
end Go.Proofs
