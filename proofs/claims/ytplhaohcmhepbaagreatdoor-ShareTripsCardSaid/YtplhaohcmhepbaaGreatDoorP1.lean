/-
  What a season's settlement is, and laws for regions that draw their order and for slices of any kind of things, hold as they are stated.
-/
import Derived.Lib.Hide
import Derived.Test.YtplhaohcmhepbaaGreatDoorProg
import Derived.WalkKit
import Derived.WalkSpells
import Derived.WalkLawsBesides
import Derived.Below
import Derived.Outline
import Derived.KernelRfl
import Derived.Deep.RegionHeld3
import Derived.Deep.QuietTactic
import Derived.BigQuiet
import Derived.Deep.DrawnRows
import Derived.Laws.Rows
import Derived.Laws.CopyRow
import Derived.Laws.CopyOwn
import Derived.Laws.EntriesVeiled
import Derived.OrdersHeld
import Derived.StillTail
import Derived.OrdersIn
import Derived.RangeFuncCalls
import Derived.RangeFuncNested
import Derived.RangeFuncLeaves
import Derived.RangeFuncBound
import Derived.OwnWalkIn
import Derived.TacticsInMore
import Derived.LoopNIn
import Derived.LoopIn
import Derived.Laws.AppendOwnNone
import Derived.Laws.MakeOwn
import Derived.Lib.AppendZeros
import Derived.Laws.StructEq
namespace Go.Proofs

/-- A number from lo to hi. -/
def inB (n lo hi : Int) : Bool := decide (lo ≤ n ∧ n ≤ hi)
/-- A person: parts, debt, fate. -/
structure Pe where
  (p d f : Int)
deriving DecidableEq
/-- A landing: gross, costs, crew. -/
structure La where
  (g c w : Int)
deriving DecidableEq
/-- What a person has in the end: share, off, paid, owed, struck. -/
structure En where
  (s o p w k : Int)
deriving DecidableEq
/-- Does a set have a number? -/
def hasB (s : Int) (k : Nat) : Bool := (s / 2 ^ k) % 2 == 1
def sumI : List Int → Int
  | [] => 0
  | x :: r => x + sumI r
theorem sumI_append : ∀ (a b : List Int), sumI (a ++ b) = sumI a + sumI b
  | [], b => by simp [sumI]
  | x :: r, b => by simp [sumI, sumI_append r b]; omega
theorem sumI_take (xs : List Int) (k : Nat) (h : k < xs.length) : sumI (xs.take (k + 1)) = sumI (xs.take k) + xs[k] := by
  rw [← List.take_append_getElem h, sumI_append]; simp [sumI]
theorem sumI_bd : ∀ (xs : List Int) (B : Int), (∀ x ∈ xs, -B ≤ x ∧ x ≤ B) → -(B * xs.length) ≤ sumI xs ∧ sumI xs ≤ B * xs.length
  | [], B, _ => by simp [sumI]
  | x :: r, B, h => by
    have h1 := h x (by simp)
    have h2 := sumI_bd r B (fun y hy => h y (by simp [hy]))
    have e : B * ((x :: r).length : Int) = B * (r.length : Int) + B := by simp [Int.mul_add]
    simp only [sumI]
    rw [e]; omega
theorem sumI_nonneg : ∀ (xs : List Int), (∀ x ∈ xs, 0 ≤ x) → 0 ≤ sumI xs
  | [], _ => by simp [sumI]
  | x :: r, h => by
    have h1 := h x (by simp)
    have h2 := sumI_nonneg r (fun y hy => h y (by simp [hy]))
    simp only [sumI]; omega
theorem sumI_mem_le : ∀ (xs : List Int), (∀ x ∈ xs, 0 ≤ x) → ∀ x ∈ xs, x ≤ sumI xs
  | [], _, x, hx => by simp at hx
  | y :: r, h, x, hx => by
    have h1 := h y (by simp)
    have h2 := sumI_nonneg r (fun z hz => h z (by simp [hz]))
    simp only [sumI]
    rcases List.mem_cons.1 hx with rfl | hx
    · omega
    · have := sumI_mem_le r (fun z hz => h z (by simp [hz])) x hx
      omega

def shB (f : Int) : Bool := f == 1 || f == 3
def peB (x : Pe) : Bool := inB x.p 1 24 && inB x.d 0 100000 && inB x.f 1 3
def houseB : List Pe → Bool
  | [] => false
  | x :: _ => x.d == 0 && x.f == 1
def persB (ps : List Pe) : Bool := inB (ps.length : Int) 2 6 && ps.all peB && decide (sumI (ps.map Pe.p) ≤ 24) && houseB ps
def laB (n : Nat) (x : La) : Bool := inB x.g 0 100000 && inB x.c 0 100000 && inB x.w 0 (2 ^ n - 1) && hasB x.w 0
def seasonB (ps : List Pe) (ls : List La) : Bool := persB ps && decide (ls.length ≤ 6) && ls.all (laB ps.length)

/-- Those who share a landing of this crew, from the k-th person on. -/
def shFrom (w : Int) : Nat → List Pe → List Pe
  | _, [] => []
  | k, x :: r => if hasB w k && shB x.f then x :: shFrom w (k + 1) r else shFrom w (k + 1) r
def partsL (ps : List Pe) (w : Int) : Int := sumI ((shFrom w 0 ps).map Pe.p)
def lcmI (a b : Int) : Int := a / (Int.gcd a b : Int) * b
def netI (l : La) : Int := max (l.g - l.c) 0
def defI (l : La) : Int := max (l.c - l.g) 0
def denTo (ps : List Pe) (d : Int) (ls : List La) : Int := ls.foldl (fun d l => lcmI d (partsL ps l.w)) d
def denF (ps : List Pe) (ls : List La) : Int := denTo ps 1 ls
/-- What the k-th person claims on a landing. -/
def claimF (ps : List Pe) (den : Int) (l : La) (k : Nat) : Int :=
  match ps[k]? with
  | some x => if hasB l.w k && shB x.f then netI l * (den / partsL ps l.w) * x.p else 0
  | none => 0
def totF (ps : List Pe) (ls : List La) (k : Nat) : Int := sumI (ls.map fun l => claimF ps (denF ps ls) l k)
def shareF (ps : List Pe) (ls : List La) (k : Nat) : Int := totF ps ls k / denF ps ls
def endF (f sh debt : Int) : En :=
  if f = 1 then ⟨sh, min sh debt, sh - min sh debt, debt - min sh debt, 0⟩
  else if f = 2 then ⟨0, 0, 0, debt, 0⟩
  else ⟨sh, min debt (sh / 2), sh - min debt (sh / 2), 0, debt - min debt (sh / 2)⟩
/-- All ends but for what the house has besides. -/
def endsFrom (ps : List Pe) (ls : List La) : List En := (List.range ps.length).map fun k => endF ((ps.getD k ⟨0, 0, 0⟩).f) (shareF ps ls k) ((ps.getD k ⟨0, 0, 0⟩).d)
def moreF (ps : List Pe) (ls : List La) : Int := sumI ((endsFrom ps ls).map En.o) - sumI (ls.map defI)
def addHouse (m : Int) : List En → List En
  | [] => []
  | x :: r => { x with p := x.p + m } :: r
def endsF (ps : List Pe) (ls : List La) : List En := addHouse (moreF ps ls) (endsFrom ps ls)
def boxF (ps : List Pe) (ls : List La) : Int := sumI (ls.map netI) - sumI ((List.range ps.length).map (shareF ps ls))

theorem shFrom_mem (w : Int) : ∀ (ps : List Pe) (k : Nat) (x : Pe), x ∈ shFrom w k ps → x ∈ ps
  | [], _, _, h => by simp [shFrom] at h
  | y :: r, k, x, h => by
    simp only [shFrom] at h
    split at h
    · rcases List.mem_cons.1 h with rfl | h
      · simp
      · exact List.mem_cons_of_mem _ (shFrom_mem w r _ _ h)
    · exact List.mem_cons_of_mem _ (shFrom_mem w r _ _ h)
theorem shFrom_le (w : Int) : ∀ (ps : List Pe) (k : Nat), (∀ x ∈ ps, 0 ≤ x.p) → sumI ((shFrom w k ps).map Pe.p) ≤ sumI (ps.map Pe.p)
  | [], _, _ => by simp [shFrom]
  | y :: r, k, h => by
    have h1 := h y (by simp)
    have h2 := shFrom_le w r (k + 1) (fun x hx => h x (by simp [hx]))
    simp only [shFrom]
    split
    · simp only [List.map_cons, sumI]; omega
    · simp only [List.map_cons, sumI]; omega
/-- Taken to the k-th person. -/
theorem shFrom_snoc (w : Int) : ∀ (ps : List Pe) (j : Nat) (x : Pe), shFrom w j (ps ++ [x]) = shFrom w j ps ++ (if hasB w (j + ps.length) && shB x.f then [x] else [])
  | [], j, x => by simp [shFrom]
  | y :: r, j, x => by
    have ih := shFrom_snoc w r (j + 1) x
    simp only [List.cons_append, shFrom, ih, List.length_cons]
    have e : j + 1 + r.length = j + (r.length + 1) := by omega
    rw [e]
    split <;> simp

structure Seas (ps : List Pe) (ls : List La) : Prop where
  two : 2 ≤ ps.length
  six : ps.length ≤ 6
  pe : ∀ x ∈ ps, 1 ≤ x.p ∧ x.p ≤ 24 ∧ 0 ≤ x.d ∧ x.d ≤ 100000 ∧ 1 ≤ x.f ∧ x.f ≤ 3
  sum : sumI (ps.map Pe.p) ≤ 24
  house : ∃ x r, ps = x :: r ∧ x.d = 0 ∧ x.f = 1
  few : ls.length ≤ 6
  la : ∀ l ∈ ls, 0 ≤ l.g ∧ l.g ≤ 100000 ∧ 0 ≤ l.c ∧ l.c ≤ 100000 ∧ 0 ≤ l.w ∧ l.w ≤ 2 ^ ps.length - 1 ∧ hasB l.w 0 = true
theorem seas_iff (ps : List Pe) (ls : List La) : seasonB ps ls = true ↔ Seas ps ls := by
  constructor
  · intro h
    simp only [seasonB, persB, Bool.and_eq_true, decide_eq_true_eq, List.all_eq_true, inB] at h
    obtain ⟨⟨⟨⟨⟨h1, h2⟩, h3⟩, h4⟩, h5⟩, h6⟩ := h
    refine ⟨by omega, by omega, fun x hx => ?_, h3, ?_, h5, fun l hl => ?_⟩
    · have := h2 x hx; simp only [peB, Bool.and_eq_true, inB, decide_eq_true_eq] at this; omega
    · cases ps with
      | nil => simp [houseB] at h4
      | cons x r => simp only [houseB, Bool.and_eq_true, beq_iff_eq] at h4; exact ⟨x, r, rfl, h4.1, h4.2⟩
    · have := h6 l hl; simp only [laB, Bool.and_eq_true, inB, decide_eq_true_eq] at this; exact ⟨this.1.1.1.1, this.1.1.1.2, this.1.1.2.1, this.1.1.2.2, this.1.2.1, this.1.2.2, this.2⟩
  · rintro ⟨h1, h2, h3, h4, ⟨x, r, rfl, h5, h6⟩, h7, h8⟩
    simp only [seasonB, persB, Bool.and_eq_true, decide_eq_true_eq, List.all_eq_true, inB]
    refine ⟨⟨⟨⟨⟨by omega, fun y hy => ?_⟩, h4⟩, by simp [houseB, h5, h6]⟩, h7⟩, fun l hl => ?_⟩
    · have := h3 y hy; simp only [peB, Bool.and_eq_true, inB, decide_eq_true_eq]; omega
    · have := h8 l hl; simp only [laB, Bool.and_eq_true, inB, decide_eq_true_eq]; exact ⟨⟨⟨⟨this.1, this.2.1⟩, this.2.2.1, this.2.2.2.1⟩, this.2.2.2.2.1, this.2.2.2.2.2.1⟩, this.2.2.2.2.2.2⟩

theorem Seas.parts {ps : List Pe} {ls : List La} (h : Seas ps ls) {w : Int} (hw : hasB w 0 = true) : 1 ≤ partsL ps w ∧ partsL ps w ≤ 24 := by
  obtain ⟨x, r, rfl, h5, h6⟩ := h.house
  have hx := h.pe x (by simp)
  have h0 : ∀ y ∈ x :: r, 0 ≤ y.p := fun y hy => by have := h.pe y hy; omega
  have h1 := shFrom_le w (x :: r) 0 h0
  have h2 := h.sum
  refine ⟨?_, by unfold partsL; omega⟩
  unfold partsL
  simp only [shFrom, hw, h6, shB]
  simp only [beq_self_eq_true, Bool.true_or, Bool.and_self, if_true, List.map_cons, sumI]
  have := sumI_nonneg ((shFrom w (0 + 1) r).map Pe.p) (fun y hy => by
    obtain ⟨z, hz, rfl⟩ := List.mem_map.1 hy
    exact h0 z (by simp [shFrom_mem _ _ _ _ hz]))
  omega
theorem lcmI_bd {a b A : Int} (ha : 1 ≤ a ∧ a ≤ A) (hb : 1 ≤ b ∧ b ≤ 24) : 1 ≤ lcmI a b ∧ lcmI a b ≤ A * 24 ∧ a / (Int.gcd a b : Int) * (Int.gcd a b : Int) = a ∧ 1 ≤ a / (Int.gcd a b : Int) ∧ a / (Int.gcd a b : Int) ≤ a := by
  have hd : (Int.gcd a b : Int) ∣ a := Int.gcd_dvd_left ..
  have hg : 0 < (Int.gcd a b : Int) := by
    have : 0 < Int.gcd a b := Int.gcd_pos_of_ne_zero_left _ (by omega)
    omega
  have he := Int.ediv_mul_cancel hd
  have hq : 1 ≤ a / (Int.gcd a b : Int) := by
    have : 0 < a / (Int.gcd a b : Int) := Int.ediv_pos_of_pos_of_dvd (by omega) (by omega) hd
    omega
  have hq2 : a / (Int.gcd a b : Int) ≤ a := Int.ediv_le_self _ (by omega)
  refine ⟨?_, ?_, he, hq, hq2⟩
  · unfold lcmI
    have := Int.mul_le_mul hq hb.1 (by omega) (by omega)
    simpa using this
  · unfold lcmI
    exact Int.mul_le_mul (by omega) hb.2 (by omega) (by omega)
theorem denTo_bd (ps : List Pe) : ∀ (ls : List La) (d A : Int), (∀ l ∈ ls, 1 ≤ partsL ps l.w ∧ partsL ps l.w ≤ 24) → 1 ≤ d ∧ d ≤ A → 1 ≤ denTo ps d ls ∧ denTo ps d ls ≤ A * 24 ^ ls.length
  | [], d, A, _, hd => by simpa [denTo] using hd
  | l :: r, d, A, h, hd => by
    have h1 := lcmI_bd hd (h l (by simp))
    have h2 := denTo_bd ps r (lcmI d (partsL ps l.w)) (A * 24) (fun x hx => h x (by simp [hx])) ⟨h1.1, h1.2.1⟩
    have e : A * 24 ^ (l :: r).length = A * 24 * 24 ^ r.length := by rw [List.length_cons, Int.pow_succ]; rw [Int.mul_assoc, Int.mul_comm 24]
    rw [e]
    exact h2
theorem pow24 (n : Nat) (h : n ≤ 6) : (24 : Int) ^ n ≤ 191102976 := by
  have : n = 0 ∨ n = 1 ∨ n = 2 ∨ n = 3 ∨ n = 4 ∨ n = 5 ∨ n = 6 := by omega
  rcases this with rfl | rfl | rfl | rfl | rfl | rfl | rfl <;> decide
theorem Seas.den {ps : List Pe} {ls : List La} (h : Seas ps ls) : 1 ≤ denF ps ls ∧ denF ps ls ≤ 191102976 := by
  have h1 := denTo_bd ps ls 1 1 (fun l hl => h.parts (h.la l hl).2.2.2.2.2.2) (by omega)
  have h2 := pow24 ls.length h.few
  unfold denF; omega
theorem denTo_append (ps : List Pe) (d : Int) (a b : List La) : denTo ps d (a ++ b) = denTo ps (denTo ps d a) b := by simp [denTo]
/-- Each landing's parts divide the common denominator. -/
theorem denTo_dvd0 (ps : List Pe) : ∀ (ls : List La) (d : Int), d ∣ denTo ps d ls
  | [], d => by simp [denTo]
  | l :: r, d => by
    have h := denTo_dvd0 ps r (lcmI d (partsL ps l.w))
    refine Int.dvd_trans ?_ h
    unfold lcmI
    have hd : (Int.gcd d (partsL ps l.w) : Int) ∣ partsL ps l.w := Int.gcd_dvd_right ..
    obtain ⟨m, hm⟩ := hd
    have hd2 : (Int.gcd d (partsL ps l.w) : Int) ∣ d := Int.gcd_dvd_left ..
    generalize (Int.gcd d (partsL ps l.w) : Int) = g at *
    rw [hm, ← Int.mul_assoc, Int.ediv_mul_cancel hd2]
    exact Int.dvd_mul_right ..
theorem denTo_dvd (ps : List Pe) : ∀ (ls : List La) (d : Int) (l : La), l ∈ ls → partsL ps l.w ∣ denTo ps d ls
  | [], _, _, h => by simp at h
  | y :: r, d, l, h => by
    rcases List.mem_cons.1 h with rfl | h
    · refine Int.dvd_trans ?_ (denTo_dvd0 ps r _)
      unfold lcmI; exact Int.dvd_mul_left ..
    · exact denTo_dvd ps r _ l h
end Go.Proofs
namespace Go.Proofs

theorem shFrom_len (w : Int) : ∀ (ps : List Pe) (k : Nat), (shFrom w k ps).length ≤ ps.length
  | [], _ => by simp [shFrom]
  | y :: r, k => by
    have := shFrom_len w r (k + 1)
    simp only [shFrom]
    split <;> simp <;> omega
/-- What is said of the first l landings, and of the first k persons of the next one. -/
def clM (ps : List Pe) (ls : List La) (den : Int) (l k : Nat) (a b : Int) : Option Int :=
  if 0 ≤ a ∧ 0 ≤ b ∧ (a.toNat < l ∨ a.toNat = l ∧ b.toNat < k) then
    match ls[a.toNat]?, ps[b.toNat]? with
    | some y, some x => if hasB y.w b.toNat && shB x.f then some (netI y * (den / partsL ps y.w) * x.p) else none
    | _, _ => none
  else none
theorem clM_zero (ps : List Pe) (ls : List La) (den : Int) (a b : Int) : none = clM ps ls den 0 0 a b := by
  unfold clM; rw [if_neg (by omega)]
theorem clM_some {ps : List Pe} {ls : List La} {den : Int} {l k : Nat} {x : Pe} {y : La} (hx : ps[k]? = some x) (hy : ls[l]? = some y) (h : (hasB y.w k && shB x.f) = true) (a b : Int) :
    (if a = l ∧ b = k then some (netI y * (den / partsL ps y.w) * x.p) else clM ps ls den l k a b) = clM ps ls den l (k + 1) a b := by
  by_cases hab : a = l ∧ b = k
  · obtain ⟨rfl, rfl⟩ := hab
    rw [if_pos ⟨rfl, rfl⟩]
    unfold clM
    rw [if_pos (by omega)]
    simp only [Int.toNat_natCast, hx, hy, h, if_true]
  · rw [if_neg hab]
    unfold clM
    by_cases hc : 0 ≤ a ∧ 0 ≤ b ∧ (a.toNat < l ∨ a.toNat = l ∧ b.toNat < k)
    · rw [if_pos hc, if_pos (by omega)]
    · rw [if_neg hc, if_neg (by omega)]
theorem clM_none {ps : List Pe} {ls : List La} {den : Int} {l k : Nat} {x : Pe} {y : La} (hx : ps[k]? = some x) (hy : ls[l]? = some y) (h : (hasB y.w k && shB x.f) = false) (a b : Int) :
    clM ps ls den l k a b = clM ps ls den l (k + 1) a b := by
  unfold clM
  by_cases hab : a = l ∧ b = k
  · obtain ⟨rfl, rfl⟩ := hab
    rw [if_neg (by omega), if_pos (by omega)]
    simp only [Int.toNat_natCast, hx, hy, h]
    rfl
  · by_cases hc : 0 ≤ a ∧ 0 ≤ b ∧ (a.toNat < l ∨ a.toNat = l ∧ b.toNat < k)
    · rw [if_pos hc, if_pos (by omega)]
    · rw [if_neg hc, if_neg (by omega)]
theorem clM_next (ps : List Pe) (ls : List La) (den : Int) (l : Nat) (a b : Int) : clM ps ls den l ps.length a b = clM ps ls den (l + 1) 0 a b := by
  unfold clM
  by_cases hc : 0 ≤ a ∧ 0 ≤ b ∧ (a.toNat < l ∨ a.toNat = l ∧ b.toNat < ps.length)
  · rw [if_pos hc, if_pos (by omega)]
  · rw [if_neg hc]
    by_cases hd : 0 ≤ a ∧ 0 ≤ b ∧ (a.toNat < l + 1 ∨ a.toNat = l + 1 ∧ b.toNat < 0)
    · rw [if_pos hd]
      have : ps[b.toNat]? = none := List.getElem?_eq_none (by omega)
      rw [this]
      split <;> simp_all
    · rw [if_neg hd]
/-- All that is said. -/
def clF (ps : List Pe) (ls : List La) (a b : Int) : Option Int := clM ps ls (denF ps ls) ls.length 0 a b
theorem clF_get {ps : List Pe} {ls : List La} {l k : Nat} {y : La} (hy : ls[l]? = some y) : (clF ps ls l k).getD 0 = claimF ps (denF ps ls) y k := by
  have hl := (List.getElem?_eq_some_iff.1 hy).1
  unfold clF clM claimF
  rw [if_pos (by omega)]
  simp only [Int.toNat_natCast, hy]
  cases hx : ps[k]? with
  | none => rfl
  | some x => simp only; split <;> rfl
theorem mul_bd2 {a b A B : Int} (ha : 0 ≤ a ∧ a ≤ A) (hb : 0 ≤ b ∧ b ≤ B) : 0 ≤ a * b ∧ a * b ≤ A * B :=
  ⟨Int.mul_nonneg ha.1 hb.1, Int.mul_le_mul ha.2 hb.2 hb.1 (by omega)⟩
theorem netI_bd {l : La} (h : 0 ≤ l.g ∧ l.g ≤ 100000 ∧ 0 ≤ l.c ∧ l.c ≤ 100000) : 0 ≤ netI l ∧ netI l ≤ 100000 := by unfold netI; omega
theorem div_bd {d p D : Int} (hd : 0 ≤ d ∧ d ≤ D) (hp : 1 ≤ p) : 0 ≤ d / p ∧ d / p ≤ D := ⟨Int.ediv_nonneg hd.1 (by omega), Int.le_trans (Int.ediv_le_self _ hd.1) hd.2⟩
theorem Seas.claim {ps : List Pe} {ls : List La} (h : Seas ps ls) {l : La} (hl : l ∈ ls) (k : Nat) : 0 ≤ claimF ps (denF ps ls) l k ∧ claimF ps (denF ps ls) l k ≤ 100000 * 191102976 := by
  have hla := h.la l hl
  have hd := h.den
  have hp := h.parts hla.2.2.2.2.2.2
  have hn := netI_bd ⟨hla.1, hla.2.1, hla.2.2.1, hla.2.2.2.1⟩
  unfold claimF
  cases hx : ps[k]? with
  | none => simp
  | some x =>
    simp only
    split
    · rename_i hc
      have hx2 := h.pe x (List.mem_of_getElem? hx)
      have hle : x.p ≤ partsL ps l.w := by
        unfold partsL
        refine sumI_mem_le _ (fun y hy => ?_) _ (List.mem_map.2 ⟨x, ?_, rfl⟩)
        · obtain ⟨z, hz, rfl⟩ := List.mem_map.1 hy
          have := h.pe z (shFrom_mem _ _ _ _ hz); omega
        · have key : ∀ (qs : List Pe) (j i : Nat), qs[i]? = some x → (hasB l.w (j + i) && shB x.f) = true → x ∈ shFrom l.w j qs := by
            intro qs
            induction qs with
            | nil => intro j i hi _; simp at hi
            | cons q r ih =>
              intro j i hi hh
              cases i with
              | zero =>
                simp at hi; subst hi
                simp only [shFrom]
                rw [if_pos (by simpa using hh)]
                simp
              | succ i =>
                have := ih (j + 1) i (by simpa using hi) (by rw [show j + 1 + i = j + (i + 1) by omega]; exact hh)
                simp only [shFrom]
                split
                · exact List.mem_cons_of_mem _ this
                · exact this
          exact key ps 0 k hx (by simpa using hc)
      have hdv := denTo_dvd ps ls 1 l hl
      have he : denF ps ls / partsL ps l.w * partsL ps l.w = denF ps ls := Int.ediv_mul_cancel hdv
      have hq := div_bd (d := denF ps ls) (p := partsL ps l.w) ⟨by omega, hd.2⟩ hp.1
      have h1 : denF ps ls / partsL ps l.w * x.p ≤ denF ps ls := by
        have := Int.mul_le_mul_of_nonneg_left hle hq.1
        omega
      have h2 : 0 ≤ denF ps ls / partsL ps l.w * x.p := Int.mul_nonneg hq.1 (by omega)
      rw [Int.mul_assoc]
      have := mul_bd2 hn ⟨h2, Int.le_trans h1 hd.2⟩
      exact this
    · omega
theorem Seas.tot {ps : List Pe} {ls : List La} (h : Seas ps ls) (k : Nat) : 0 ≤ totF ps ls k ∧ totF ps ls k ≤ 600000 * 191102976 := by
  unfold totF
  refine ⟨sumI_nonneg _ (fun x hx => ?_), ?_⟩
  · obtain ⟨l, hl, rfl⟩ := List.mem_map.1 hx
    exact (h.claim hl k).1
  · have := sumI_bd (ls.map fun l => claimF ps (denF ps ls) l k) (100000 * 191102976) (fun x hx => by
      obtain ⟨l, hl, rfl⟩ := List.mem_map.1 hx
      have := h.claim hl k; omega)
    have hf := h.few
    rw [List.length_map] at this
    omega
/-- The claims of a person on all landings. -/
def colL (ps : List Pe) (ls : List La) (k : Nat) : List Int := ls.map fun y => claimF ps (denF ps ls) y k
def rowL (ps : List Pe) (ls : List La) (y : La) : List Int := (List.range ps.length).map fun k => claimF ps (denF ps ls) y k
theorem colL_eq (ps : List Pe) (ls : List La) (k : Nat) : ((List.range ls.length).map fun l : Nat => (clF ps ls l k).getD 0) = colL ps ls k := by
  unfold colL
  apply List.ext_getElem?
  intro j
  by_cases hj : j < ls.length
  · have hy := List.getElem?_eq_getElem hj
    simp only [List.getElem?_map, List.getElem?_range hj, hy, Option.map_some]
    rw [clF_get hy]
  · rw [List.getElem?_eq_none (by simp; omega), List.getElem?_eq_none (by simp; omega)]
theorem rowL_eq {ps : List Pe} {ls : List La} {l : Nat} {y : La} (hy : ls[l]? = some y) : ((List.range ps.length).map fun k : Nat => (clF ps ls l k).getD 0) = rowL ps ls y := by
  unfold rowL
  apply List.map_congr_left
  intro k _
  exact clF_get hy
theorem part_bd (xs : List Int) (h : ∀ x ∈ xs, 0 ≤ x ∧ x ≤ 19110297600000) (hl : xs.length ≤ 20) (j : Nat) : -4000000000000000000 ≤ sumI (xs.take j) ∧ sumI (xs.take j) ≤ 4000000000000000000 := by
  have := sumI_bd (xs.take j) 19110297600000 (fun x hx => by have := h x (List.mem_of_mem_take hx); omega)
  have : (xs.take j).length ≤ 20 := by simp; omega
  omega
theorem Seas.col {ps : List Pe} {ls : List La} (h : Seas ps ls) (k : Nat) (j : Nat) : -4000000000000000000 ≤ sumI ((colL ps ls k).take j) ∧ sumI ((colL ps ls k).take j) ≤ 4000000000000000000 := by
  refine part_bd _ (fun x hx => ?_) (by have := h.few; simp [colL]; omega) j
  obtain ⟨l, hl, rfl⟩ := List.mem_map.1 hx
  exact h.claim hl k
theorem Seas.row {ps : List Pe} {ls : List La} (h : Seas ps ls) {y : La} (hy : y ∈ ls) (j : Nat) : -4000000000000000000 ≤ sumI ((rowL ps ls y).take j) ∧ sumI ((rowL ps ls y).take j) ≤ 4000000000000000000 := by
  refine part_bd _ (fun x hx => ?_) (by have := h.six; simp [rowL]; omega) j
  obtain ⟨k, hk, rfl⟩ := List.mem_map.1 hx
  exact h.claim hy k
theorem Seas.share {ps : List Pe} {ls : List La} (h : Seas ps ls) (k : Nat) : 0 ≤ shareF ps ls k ∧ shareF ps ls k ≤ 600000 * 191102976 := by
  have h1 := h.tot k
  have h2 := h.den
  unfold shareF
  exact div_bd h1 h2.1
end Go.Proofs
namespace Go.Proofs

/-- All lists that make a list longer by some of the rest, in lexicographic order. -/
def moreL : List Int → List Int → List (List Int)
  | _, [] => []
  | l, n :: r => ((l ++ [n]) :: moreL (l ++ [n]) r) ++ moreL l r
def listsL (ns : List Int) : List (List Int) := [] :: moreL [] ns
theorem moreL_drop (l r : List Int) (k : Nat) (h : k < r.length) : moreL l (r.drop k) = ((l ++ [r[k]]) :: moreL (l ++ [r[k]]) (r.drop (k + 1))) ++ moreL l (r.drop (k + 1)) := by
  rw [List.drop_eq_getElem_cons h]; rfl
theorem moreL_mem : ∀ (r l x : List Int), x ∈ moreL l r → ∃ t, x = l ++ t ∧ t.Sublist r ∧ t ≠ []
  | [], l, x, h => by simp [moreL] at h
  | n :: r, l, x, h => by
    simp only [moreL, List.mem_append, List.mem_cons] at h
    rcases h with (rfl | h) | h
    · exact ⟨[n], rfl, List.Sublist.cons_cons n (List.nil_sublist r), by simp⟩
    · obtain ⟨t, rfl, h2, h3⟩ := moreL_mem r _ x h
      exact ⟨n :: t, by simp, List.Sublist.cons_cons n h2, by simp⟩
    · obtain ⟨t, rfl, h2, h3⟩ := moreL_mem r _ x h
      exact ⟨t, rfl, List.Sublist.cons n h2, h3⟩
theorem listsL_mem {ns x : List Int} (h : x ∈ listsL ns) : x.Sublist ns := by
  simp only [listsL, List.mem_cons] at h
  rcases h with rfl | h
  · exact List.nil_sublist _
  · obtain ⟨t, rfl, h2, _⟩ := moreL_mem ns [] x h
    simpa using h2

/-- The first of some things that no other one betters. -/
def better1 {α : Type} (lt : α → α → Bool) (o : Option α) (x : α) : Option α := match o with | none => some x | some b => if lt x b then some x else some b
def bestL {α : Type} (lt : α → α → Bool) (xs : List α) : Option α := xs.foldl (better1 lt) none
theorem bestL_snoc {α : Type} (lt : α → α → Bool) (xs : List α) (x : α) : bestL lt (xs ++ [x]) = better1 lt (bestL lt xs) x := by simp [bestL]

/-- A set with a number, and without it. -/
def setN (w : Int) (k : Nat) : Int := if hasB w k then w else w + 2 ^ k
def clrN (w : Int) (k : Nat) : Int := if hasB w k then w - 2 ^ k else w
/-- A person takes part in just some landings. -/
def tookC (k : Nat) (y : La) : La := { y with w := clrN y.w k }
def tookS (k : Nat) (y : La) : La := { y with w := setN y.w k }
def takenL (ls : List La) (k : Nat) (trips : List Nat) : List La := trips.foldl (fun ls l => ls.modify l (tookS k)) (ls.map (tookC k))
theorem takenL_len (ls : List La) (k : Nat) (ts : List Nat) : (takenL ls k ts).length = ls.length := by
  unfold takenL
  have : ∀ (ts : List Nat) (xs : List La), (ts.foldl (fun ls l => ls.modify l (tookS k)) xs).length = xs.length := by
    intro ts
    induction ts with
    | nil => intro xs; rfl
    | cons t r ih => intro xs; simp only [List.foldl_cons]; rw [ih]; simp
  rw [this]; simp
theorem takenL_take (ls : List La) (k : Nat) (ts : List Nat) (j : Nat) (h : j < ts.length) : takenL ls k (ts.take (j + 1)) = (takenL ls k (ts.take j)).modify ts[j] (tookS k) := by
  unfold takenL
  rw [← List.take_append_getElem h, List.foldl_append]; rfl
/-- Numbers as they were. -/
def nats (l : List Int) : List Nat := l.map Int.toNat
end Go.Proofs
namespace Go.Proofs
open Go.RowKit

/-- Block g is just these cells of type t. -/
def Has (w : World) (g : Nat) (t : TypeId) (cs : Array Value) : Prop := w.heap[g]? = some (.cells cs t (0, 0))

section
variable {w w' : World} {g : Nat} {t : TypeId} {cs : Array Value}
theorem Has.lt (h : Has w g t cs) : g < w.heap.size := by
  unfold Has at h
  exact (Array.getElem?_eq_some_iff.1 h).1
theorem Has.cell (h : Has w g t cs) (i : Nat) : w.cell? ⟨g, i, none⟩ = cs[i]? := by
  unfold Has at h
  simp [World.cell?, h]
theorem Has.frozen (h : Has w g t cs) (i : Nat) : w.frozen? ⟨g, i, none⟩ = false := by
  unfold Has at h
  simp [World.frozen?, h]
theorem Has.below {B : Nat} (h : Has w g t cs) (hb : Below B w w') (hg : g < B) : Has w' g t cs := (hb.block g hg).trans h
theorem Has.after (h : Has w g t cs) (hb : Below w.heap.size w w') : Has w' g t cs := h.below hb h.lt
theorem Has.alloc (h : Has w g t cs) (o : Obj) : Has (w.alloc o) g t cs := (Below.heap_alloc w o g h.lt).trans h
theorem Has.new (w : World) (t : TypeId) (cs : Array Value) : Has (w.alloc (.cells cs t)) w.heap.size t cs := by
  exact heap_alloc_new w _
theorem Has.new' (w : World) (t : TypeId) (cs : Array Value) (hg : w.heap.size = g) : Has (w.alloc (.cells cs t)) g t cs := hg ▸ Has.new w t cs
theorem Has.drew (h : Has w g t cs) : Has w.drew g t cs := h
theorem Has.drewN (h : Has w g t cs) (n : Nat) : Has (w.drewN n) g t cs := h
theorem Has.set (h : Has w g t cs) (i : Nat) (u : Value) : Has (w.setCell ⟨g, i, none⟩ u) g t (cs.setIfInBounds i u) := by
  unfold Has at h ⊢
  simp [World.setCell, Array.getElem?_modify, h]
theorem Has.far (h : Has w g t cs) {p : Addr} (hp : g ≠ p.block) (u : Value) : Has (w.setCell p u) g t cs := (Below.heap_setCell w p u g hp).trans h
theorem Has.eq (h : Has w g t cs) {cs' : Array Value} (e : cs = cs') : Has w g t cs' := e ▸ h
end

theorem Has.setRow {w : World} {g : Nat} {t : TypeId} {cs : Array Value} (h : Has w g t cs) (cs' : Array Value) : Has (w.setRow g cs') g t cs' := setRow_heap w g cs cs' t (0, 0) h
theorem Has.setRow_far {w : World} {g k : Nat} {t : TypeId} {cs : Array Value} (h : Has w g t cs) (hk : g ≠ k) (cs' : Array Value) : Has (w.setRow k cs') g t cs := (setRow_other w k g cs' hk).trans h
theorem rowB {w w1 : World} (h : Below w.heap.size w w1) {g : Nat} (hg : w.heap.size ≤ g) (cs : Array Value) : Below w.heap.size w (w1.setRow g cs) := below_setRow h hg cs

section
variable {P : Program}
/-- A whole struct or array is stored over a row. -/
theorem run_storeVar_all (w : World) (g : Nat) (t ty : TypeId) (cs cur : Array Value) (hg : Has w g t cur) (hi : (P.info? ty).map (·.size) = some cs.size) (hl : cs.size = cur.size) (h1 : ∀ v ∈ cs.toList, v.oneCell' = true) :
    (storeVar ty ⟨g, 0, none⟩ (.agg cs)).run P w = .ok () (w.setRow g cs) := by
  have h2 := run_storeCells_at (P := P) g 0 t cs.toList 0 cur w hg (by simp; omega) h1
  have e : (cur.toList.take (0 + 0) ++ cs.toList ++ cur.toList.drop (0 + 0 + cs.toList.length)).toArray = cs := by
    have : cur.toList.drop cs.size = [] := List.drop_eq_nil_of_le (by simp; omega)
    simp [this]
  rw [e] at h2
  cases hq : P.info? ty with
  | none => simp [hq] at hi
  | some i =>
    have hs : i.size = cs.size := by simpa [hq] using hi
    simp [storeVar, Sem.run_bind, sizeOf, typeInfo, hq, hs, Value.cells, h2]

theorem wpList_store_all {ops : Array Oper} {rest : List Oper} {o : Oper} {a : Act} {w : World} {Q : Exit → Act → World → Prop} (hgd : o.guard = none) (ty : TypeId) (x v : Operand) (ho : o.op = .store ty x v)
    (g : Nat) (hx : a.eval x = .pointer (some ⟨g, 0, none⟩)) (cs : Array Value) (hv : a.eval v = .agg cs) (t : TypeId) (cur : Array Value) (hg : Has w g t cur)
    (hi : (P.info? ty).map (·.size) = some cs.size) (hl : cs.size = cur.size) (h1 : ∀ u ∈ cs.toList, u.oneCell' = true)
    (h : wpList P ops Q rest (a.put o.dst undef) (w.setRow g cs)) : wpList P ops Q (o :: rest) a w :=
  wpList_plain hgd fun _ hK => by
    unfold Oper.wp execOp
    simp only [ho, hx, hv, Instr.storeAt, Instr.sureAddr, Sem.run_bind, Sem.run_pure, Result.andThen_ok, run_storeVar_all w g t ty cs cur hg hi hl h1]
    exact hK _ _ h
end

/-- A slice reads as a list of cells. -/
def SlAt (w : World) (A : Option Addr) (n size : Nat) (xs : List Value) : Prop :=
  xs.length = n * size ∧ (0 < n → ∃ b o, A = some ⟨b, o, none⟩ ∧ ∀ (j : Nat) u, xs[j]? = some u → w.cell? ⟨b, o + j, none⟩ = some u)
theorem SlAt.keep {w w' : World} {A : Option Addr} {n size : Nat} {xs : List Value} (h : SlAt w A n size xs) (hb : Below w.heap.size w w') : SlAt w' A n size xs :=
  ⟨h.1, fun hn => by
    obtain ⟨b, o, e, hc⟩ := h.2 hn
    refine ⟨b, o, e, fun j u hu => ?_⟩
    have h1 := hc j u hu
    rw [← h1]
    exact hb.cell (p := ⟨b, o + j, none⟩) (block_lt_of_cell h1)⟩
theorem SlAt.same {w w' : World} {A : Option Addr} {n size : Nat} {xs : List Value} (h : SlAt w A n size xs) (hb : ∀ p : Addr, p.block < w.heap.size → w'.cell? p = w.cell? p) : SlAt w' A n size xs :=
  ⟨h.1, fun hn => by
    obtain ⟨b, o, e, hc⟩ := h.2 hn
    refine ⟨b, o, e, fun j u hu => ?_⟩
    have h1 := hc j u hu
    rw [← h1]
    exact hb _ (block_lt_of_cell h1)⟩

theorem nextB {w w1 w2 : World} (h : Below w.heap.size w w1) (k : Below w1.heap.size w1 w2) : Below w.heap.size w w2 := h.trans (k.mono h.size)
theorem newB {w w1 : World} (h : Below w.heap.size w w1) (o : Obj) : Below w.heap.size w (w1.alloc o) := h.alloc h.size o
theorem setB {w w1 : World} (h : Below w.heap.size w w1) {p : Addr} (hp : w.heap.size ≤ p.block) (u : Value) : Below w.heap.size w (w1.setCell p u) := h.setCell hp u
theorem cell_of_below {w w' : World} (hb : Below w.heap.size w w') : (∀ b o, b < w.heap.size → w'.cell? ⟨b, o, none⟩ = w.cell? ⟨b, o, none⟩) ∧ (∀ b o, b < w.heap.size → w'.frozen? ⟨b, o, none⟩ = w.frozen? ⟨b, o, none⟩) :=
  ⟨fun b o h => hb.cell (p := ⟨b, o, none⟩) h, fun b o h => hb.frozen (p := ⟨b, o, none⟩) h⟩
end Go.Proofs
namespace Go.Proofs
open Go.RowKit
section
variable {P : Program} {ops : Array Oper} {C : World → Prop} {Q : Act → Prop}
/-- In a quiet region: a whole row is loaded. -/
theorem wpQuiet_load_row {o : Oper} {rest : List Oper} {a : Act} (hgd : o.guard = none) (ty : TypeId) (x : Operand) (ho : o.op = .load ty x) (g : Nat) (hx : a.eval x = .pointer (some ⟨g, 0, none⟩))
    (t : TypeId) (cs : Array Value) (d : TypeDesc) (hg : ∀ w, C w → Has w g t cs) (hu : P.underlying ty = some d) (hd : (match d with | .struct _ | .array _ _ => true | _ => false) = true)
    (hi : (P.info? ty).map (·.size) = some cs.size) (h : wpQuiet P ops C Q rest (a.put o.dst (.agg cs))) : wpQuiet P ops C Q (o :: rest) a := by
  unfold wpQuiet
  have hw : Region.wanted o (yielded ops a.tmps) = true := by simp [Region.wanted, hgd]
  rw [if_pos hw]
  refine ⟨.agg cs, fun w hC => ?_, h⟩
  unfold Oper.quietAt execOp
  simp only [ho, hx, Instr.loadAt, Instr.sureAddr, Sem.run_bind, Sem.run_pure, Result.andThen_ok, run_loadVar_row w g t ty cs (0, 0) d (hg w hC) hu hd hi]
  exact ⟨rfl, rfl⟩
/-- In a quiet region: one cell is loaded. -/
theorem wpQuiet_load_cell {o : Oper} {rest : List Oper} {a : Act} (hgd : o.guard = none) (ty : TypeId) (x : Operand) (ho : o.op = .load ty x) (p : Addr) (hx : a.eval x = .pointer (some p))
    (v : Value) (hg : ∀ w, C w → w.cell? p = some v) (d : TypeDesc) (hu : P.underlying ty = some d) (hd : (match d with | .struct _ | .array _ _ => false | _ => true) = true)
    (h : wpQuiet P ops C Q rest (a.put o.dst v)) : wpQuiet P ops C Q (o :: rest) a := by
  unfold wpQuiet
  have hw : Region.wanted o (yielded ops a.tmps) = true := by simp [Region.wanted, hgd]
  rw [if_pos hw]
  refine ⟨v, fun w hC => ?_, h⟩
  have hagg : (isAgg ty).run P w = .ok false w := by
    unfold isAgg
    rw [Sem.run_bind, run_underlying hu w]
    cases d <;> simp_all
  have hl : (loadVar ty p).run P w = .ok v w := by
    simp [loadVar, Sem.run_bind, hagg, load, Sem.run, hg w hC]
  unfold Oper.quietAt execOp
  simp only [ho, hx, Instr.loadAt, Instr.sureAddr, Sem.run_bind, Sem.run_pure, Result.andThen_ok, hl]
  exact ⟨rfl, rfl⟩
/-- In a quiet region: a call whose result hangs on no world of the class. -/
theorem wpQuiet_call {o : Oper} {rest : List Oper} {a : Act} (hgd : o.guard = none) (f : FuncId) (xs : Array Operand) (ts : Array TypeId) (ho : o.op = .call { callee := .value (.func f), args := xs, argTypes := ts })
    (args : Array Value) (hx : xs.map a.eval = args) (v : Value) (hf : ∀ w, (callFunc f args).run P w = .ok (.enter f args) w)
    (hc : ∀ w, C w → Calls P f args w fun e w' => e = .returned v ∧ C w') (h : wpQuiet P ops C Q rest (a.put o.dst v)) : wpQuiet P ops C Q (o :: rest) a := by
  unfold wpQuiet
  have hw : Region.wanted o (yielded ops a.tmps) = true := by simp [Region.wanted, hgd]
  rw [if_pos hw]
  refine ⟨v, fun w hC => ?_, h⟩
  unfold Oper.quietAt execOp
  simp only [ho, resolve, hx, Act.eval, Deferred.ofValue, invoke, Sem.run_bind, Sem.run_pure, Result.andThen_ok, Array.empty_append, Array.append_empty, hf]
  exact ⟨rfl, hc w hC⟩
/-- In a quiet region: an operation that looks at its operands alone. -/
theorem wpQuiet_pure {o : Oper} {rest : List Oper} {a : Act} (hgd : o.guard = none) (v : Value) (hr : ∀ w, (execOp a.eval o).run P w = .ok (.value v) w) (h : wpQuiet P ops C Q rest (a.put o.dst v)) : wpQuiet P ops C Q (o :: rest) a := by
  unfold wpQuiet
  have hw : Region.wanted o (yielded ops a.tmps) = true := by simp [Region.wanted, hgd]
  rw [if_pos hw]
  refine ⟨v, fun w _ => ?_, h⟩
  unfold Oper.quietAt
  rw [hr w]
  exact ⟨rfl, rfl⟩
end

end Go.Proofs
namespace Go.Proofs
section
variable {P : Program} {ops : Array Oper} {Q : Exit → Act → World → Prop} {md : Region.Mode} {S : World → Prop} {n : Nat}

/-- Whatever order is picked, S holding behind each operation but those of the end. -/
def HeldT (P : Program) (md : Region.Mode) (ops : Array Oper) (Q : Exit → Act → World → Prop) (S : World → Prop) (n : Nat) : Nat → Array Bool → Act → World → Prop
  | 0, listed, a, w => Region.ready md ops listed = [] ∧ Q .normal a w
  | f + 1, listed, a, w => (Region.ready md ops listed = [] → Q .normal a w) ∧
    ∀ i ∈ Region.ready md ops listed, wpOp P ops Q i (fun a' w' => (i < n → S w') ∧ HeldT P md ops Q S n f (listed.setIfInBounds i true) a' w') a w

theorem HeldT.any : ∀ (f : Nat) (listed : Array Bool) (a : Act) (w : World), HeldT P md ops Q S n f listed a w → wpAny P md ops Q f listed a w
  | 0, _, _, _, h => h
  | f + 1, _, _, _, h => ⟨h.1, fun i hi => wpOp_mono (fun _ _ h' => HeldT.any f _ _ _ h'.2) (h.2 i hi)⟩

theorem HeldT.early (hs : Region.sinkB md ops n = true) (hc : Region.chainB md ops n = true) (hn : n < ops.size) {i : Nat} {oi : Oper} {v : Value} (hin : i < n) (hi : ops[i]? = some oi)
    (hsel : ∀ (j : Nat) (o : Oper) cs b, ops[j]? = some o → o.op ≠ .select cs b) (hQ : ∀ c a w, Q (.panic c) (a.put oi.dst v) w → Q (.panic c) a w) :
    ∀ (f : Nat) (listed : Array Bool) (a : Act) (w : World), HeadInv md ops n listed →
      (∀ j oj, ops[j]? = some oj → j ≠ i → listed.getD j true = false → (∀ e ∈ oj.after, Region.binds md e = true → e.on ≠ i) → oi.apart ops oj = true) →
      i ∈ Region.ready md ops listed → YieldsIf P ops S oi v a → S w →
      HeldT P md ops Q S n f (listed.setIfInBounds i true) (a.put oi.dst v) w → HeldT P md ops Q S n (f + 1) listed a w := by
  intro f
  induction f with
  | zero =>
    intro listed a w inv _ hr hy hS H
    refine ⟨fun h => absurd hr (by rw [h]; exact List.not_mem_nil), fun j hj => ?_⟩
    rcases Decidable.em (j = i) with rfl | hji
    · exact hy.wpOp hi hS ⟨fun _ => hS, H⟩
    · exact absurd (ready_mono hj hji) (by rw [H.1]; exact List.not_mem_nil)
  | succ f ih =>
    intro listed a w inv hfree hr hy hS H
    have hiu := (mem_ready.1 hr).1
    refine ⟨fun h => absurd hr (by rw [h]; exact List.not_mem_nil), fun j hj => ?_⟩
    rcases Decidable.em (j = i) with rfl | hji
    · exact hy.wpOp hi hS ⟨fun _ => hS, H⟩
    have hjn : j < n := Nat.lt_of_not_le fun h => tail_waits hs hc hn inv _ i rfl hin hiu j h hj
    obtain ⟨hju, oj, hoj, hall⟩ := mem_ready.1 hj
    have hno : ∀ e ∈ oj.after, Region.binds md e = true → e.on ≠ i := fun e he hb he' => by
      have := hall e he hb
      rw [he', getD_both hiu] at this
      exact Bool.noConfusion this
    have h2 := wpOp_putIf hoj (hfree j oj hoj hji hju hno) (fun cs b => hsel i oi cs b hi) (fun cs b => hsel j oj cs b hoj) hQ hy (H.2 j (ready_mono hj hji))
    refine wpOp_mono (fun a' w' h3 => ⟨h3.2.1, ih (listed.setIfInBounds j true) a' w' (inv.set hj hjn) (fun k ok hk hki hku => ?_) (ready_mono hr (Ne.symm hji)) h3.1 (h3.2.1 hjn) ?_⟩) h2
    · refine hfree k ok hk hki ?_
      rcases Decidable.em (j = k) with rfl | hjk
      · exact hju
      · rwa [getD_set_ne true hjk] at hku
    · rw [Array.setIfInBounds_comm _ _ hji]
      exact h3.2.2

/-- The same, the sides as Bools. -/
structure TailB (md : Region.Mode) (ops : Array Oper) (n : Nat) : Prop where
  sel : Region.noSelect ops = true
  sink : Region.sinkB md ops n = true
  chain : Region.chainB md ops n = true
  lt : n < ops.size

def GoT (P : Program) (md : Region.Mode) (ops : Array Oper) (Q : Exit → Act → World → Prop) (S : World → Prop) (n f : Nat) (listed : Array Bool) (a : Act) (w : World) : Prop :=
  HeadInv md ops n listed → HeldT P md ops Q S n f listed a w

theorem GoT.take (B : TailB md ops n) (i : Nat) {oi : Oper} (v : Value) {f : Nat} {listed : Array Bool} {a : Act} {w : World} (hi : ops[i]? = some oi) (hin : i < n)
    (hf : Region.free md ops listed i = true) (hr : (Region.ready md ops listed).contains i = true)
    (hQ : ∀ c a w, Q (.panic c) (a.put oi.dst v) w → Q (.panic c) a w) (hy : YieldsIf P ops S oi v a) (hS : S w)
    (h : GoT P md ops Q S n f (listed.setIfInBounds i true) (a.put oi.dst v) w) : GoT P md ops Q S n (f + 1) listed a w := fun inv => by
  have hr' : i ∈ Region.ready md ops listed := by simpa using hr
  exact HeldT.early B.sink B.chain B.lt hin hi (Region.noSelect_spec B.sel) hQ f listed a w inv (Region.free_spec hi hf) hr' hy hS (h (inv.set hr' hin))

/-- Each operation that may come up. -/
theorem GoT.each {f : Nat} {listed : Array Bool} {a : Act} {w : World} (rs : List Nat) (hr : Region.ready md ops listed = rs) (hne : rs ≠ [])
    (h : ∀ i ∈ rs, i < n ∧ wpOp P ops Q i (fun a' w' => S w' ∧ GoT P md ops Q S n f (listed.setIfInBounds i true) a' w') a w) : GoT P md ops Q S n (f + 1) listed a w := fun inv =>
  ⟨fun h0 => absurd (hr ▸ h0) hne, fun i hi => by
    obtain ⟨h1, h2⟩ := h i (hr ▸ hi)
    exact wpOp_mono (fun _ _ h3 => ⟨fun _ => h3.1, h3.2 (inv.set hi h1)⟩) h2⟩

/-- The last one. -/
theorem GoT.last {f : Nat} {listed : Array Bool} {a : Act} {w : World} (hr : Region.ready md ops listed = [n]) (hz : Region.ready md ops (listed.setIfInBounds n true) = [])
    (h : wpOp P ops Q n (fun a' w' => Q .normal a' w') a w) : GoT P md ops Q S n (f + 1) listed a w := fun _ =>
  ⟨fun h0 => by rw [hr] at h0; simp at h0, fun i hi => by
    rw [hr] at hi
    have : i = n := by simpa using hi
    subst this
    refine wpOp_mono (fun _ _ h3 => ⟨fun h => absurd h (Nat.lt_irrefl _), ?_⟩) h
    cases f with
    | zero => exact ⟨hz, h3⟩
    | succ f => exact ⟨fun _ => h3, by rw [hz]; exact fun _ h => absurd h List.not_mem_nil⟩⟩

theorem GoT.begin {id : Nat} {a : Act} {w : World} (hm : P.follows .mixedOrders = true) (h : GoT P .any ops Q S n ops.size (Array.replicate ops.size false) a w.drew) : (Code.region id ops true).wp P Q a w :=
  wp_region_any hm (HeldT.any _ _ _ _ (h ⟨by simp, fun j oj _ hl => (by rw [getD_replicate_false] at hl; exact Bool.noConfusion hl), fun t _ ht => getD_in (by simpa using ht) (getD_replicate_false _ _)⟩))
end
end Go.Proofs
namespace Go.Proofs
open Go.RowKit
section
variable {P : Program}
/-- A row with some cells written over. -/
def over (cur : Array Value) (i : Nat) (cs : Array Value) : Array Value := (cur.toList.take i ++ cs.toList ++ cur.toList.drop (i + cs.size)).toArray
theorem run_storeVar_part (w : World) (g i : Nat) (t ty : TypeId) (cs cur : Array Value) (hg : Has w g t cur) (hi : (P.info? ty).map (·.size) = some cs.size) (hl : i + cs.size ≤ cur.size) (h1 : ∀ v ∈ cs.toList, v.oneCell' = true) :
    (storeVar ty ⟨g, i, none⟩ (.agg cs)).run P w = .ok () (w.setRow g (over cur i cs)) := by
  have h2 := run_storeCells_at (P := P) g i t cs.toList 0 cur w hg (by simpa using hl) h1
  simp only [Nat.add_zero, Array.length_toList] at h2
  cases hq : P.info? ty with
  | none => simp [hq] at hi
  | some d =>
    have hs : d.size = cs.size := by simpa [hq] using hi
    simp [storeVar, Sem.run_bind, sizeOf, typeInfo, hq, hs, Value.cells, h2, over]
theorem wp_store_part {o : Oper} {a : Act} {w : World} {K : Act → World → Prop} {Q : Exit → Act → World → Prop} (ty : TypeId) (x v : Operand) (ho : o.op = .store ty x v)
    (g i : Nat) (hx : a.eval x = .pointer (some ⟨g, i, none⟩)) (cs : Array Value) (hv : a.eval v = .agg cs) (t : TypeId) (cur : Array Value) (hg : Has w g t cur)
    (hi : (P.info? ty).map (·.size) = some cs.size) (hl : i + cs.size ≤ cur.size) (h1 : ∀ u ∈ cs.toList, u.oneCell' = true)
    (h : K (a.put o.dst undef) (w.setRow g (over cur i cs))) : Oper.wp P o a w K Q := by
  unfold Oper.wp execOp
  simp only [ho, hx, hv, Instr.storeAt, Instr.sureAddr, Sem.run_bind, Sem.run_pure, Result.andThen_ok, run_storeVar_part w g i t ty cs cur hg hi hl h1]
  exact h
theorem wpList_store_part {ops : Array Oper} {rest : List Oper} {o : Oper} {a : Act} {w : World} {Q : Exit → Act → World → Prop} (hgd : o.guard = none) (ty : TypeId) (x v : Operand) (ho : o.op = .store ty x v)
    (g i : Nat) (hx : a.eval x = .pointer (some ⟨g, i, none⟩)) (cs : Array Value) (hv : a.eval v = .agg cs) (t : TypeId) (cur : Array Value) (hg : Has w g t cur)
    (hi : (P.info? ty).map (·.size) = some cs.size) (hl : i + cs.size ≤ cur.size) (h1 : ∀ u ∈ cs.toList, u.oneCell' = true)
    (h : wpList P ops Q rest (a.put o.dst undef) (w.setRow g (over cur i cs))) : wpList P ops Q (o :: rest) a w :=
  wpList_plain hgd fun _ hK => wp_store_part ty x v ho g i hx cs hv t cur hg hi hl h1 (hK _ _ h)
theorem over_two (cur : Array Value) (i : Nat) (u v : Value) (h : i + 2 ≤ cur.size) : over cur i #[u, v] = (cur.setIfInBounds i u).setIfInBounds (i + 1) v := by
  rcases cur with ⟨l⟩
  have hl : i + 2 ≤ l.length := by simpa using h
  apply Array.ext
  · simp [over]; omega
  · intro j h1 h2
    have hj : j < l.length := by simpa using h2
    simp only [over, List.getElem_toArray, List.setIfInBounds_toArray]
    by_cases e1 : j < i
    · rw [List.getElem_append_left (by simp; omega), List.getElem_append_left (by simp; omega)]
      simp [show ¬ i + 1 = j by omega, show ¬ i = j by omega]
    · by_cases e2 : j = i
      · subst e2
        rw [List.getElem_append_left (by simp; omega), List.getElem_append_right (by simp; omega)]
        simp [show min j l.length = j by omega]
      · by_cases e3 : j = i + 1
        · subst e3
          rw [List.getElem_append_left (by simp; omega), List.getElem_append_right (by simp; omega)]
          simp [show min i l.length = i by omega]
        · rw [List.getElem_append_right (by simp; omega)]
          simp [show ¬ i + 1 = j by omega, show ¬ i = j by omega, show min i l.length = i by omega, show i + 2 + (j - (i + 2)) = j by omega]
end
end Go.Proofs
namespace Go.Proofs
open Go.RowKit
section
variable {P : Program} {ops : Array Oper}

def dstOf (ops : Array Oper) (i : Nat) : Option Tmp := (ops[i]?).bind (·.dst)
def waits (o : Oper) (j : Nat) : Bool := o.after.any fun e => Region.binds .any e && e.on == j

theorem waits_spec {o : Oper} {j : Nat} (h : waits o j = true) : ∃ e ∈ o.after, Region.binds .any e = true ∧ e.on = j := by
  unfold waits at h
  obtain ⟨e, he, hb⟩ := Array.any_eq_true'.1 h
  simp only [Bool.and_eq_true, beq_iff_eq] at hb
  exact ⟨e, he, hb.1, hb.2⟩

/-- The results that have been put. -/
def canon (ops : Array Oper) (vs : Nat → Value) (sel : Nat → Bool) (a : Act) : Nat → Act
  | 0 => a
  | k + 1 => if sel k then (canon ops vs sel a k).put (dstOf ops k) (vs k) else canon ops vs sel a k

theorem canon_congr {vs vs' : Nat → Value} {sel sel' : Nat → Bool} {a : Act} : ∀ m, (∀ j, j < m → sel j = sel' j ∧ (sel j = true → vs j = vs' j)) → canon ops vs sel a m = canon ops vs' sel' a m
  | 0, _ => rfl
  | k + 1, h => by
    have ih := canon_congr (a := a) k (fun j hj => h j (by omega))
    obtain ⟨h1, h2⟩ := h k (by omega)
    simp only [canon, ih]
    rw [← h1]
    by_cases hs : sel k = true
    · simp only [hs, if_true, h2 hs]
    · simp only [hs]; rfl

theorem canon_size {vs : Nat → Value} {sel : Nat → Bool} {a : Act} : ∀ m, (canon ops vs sel a m).tmps.size = a.tmps.size ∧ (canon ops vs sel a m).defers = a.defers
  | 0 => ⟨rfl, rfl⟩
  | k + 1 => by
    have ih := canon_size (vs := vs) (sel := sel) (a := a) k
    simp only [canon]
    split
    · cases hd : dstOf ops k with
      | none => simpa [Act.put] using ih
      | some d => simpa [Act.put] using ih
    · exact ih

/-- What a temporary holds hangs on those alone that write it. -/
theorem canon_tmp {vs vs' : Nat → Value} {sel sel' : Nat → Bool} {a : Act} {d : Tmp} : ∀ m, (∀ j, j < m → dstOf ops j = some d → sel j = sel' j ∧ (sel j = true → vs j = vs' j)) →
    (canon ops vs sel a m).tmps[d]? = (canon ops vs' sel' a m).tmps[d]?
  | 0, _ => rfl
  | k + 1, h => by
    have ih := canon_tmp (vs := vs) (vs' := vs') (sel := sel) (sel' := sel') (a := a) (d := d) k (fun j hj => h j (by omega))
    have s1 := (canon_size (ops := ops) (vs := vs) (sel := sel) (a := a) k).1
    have s2 := (canon_size (ops := ops) (vs := vs') (sel := sel') (a := a) k).1
    simp only [canon]
    by_cases hd : dstOf ops k = some d
    · obtain ⟨h1, h2⟩ := h k (by omega) hd
      rw [← h1]
      by_cases hs : sel k = true
      · simp only [hs, if_true, hd, Act.put, h2 hs, Array.getElem?_setIfInBounds, s1, s2]
      · simp only [hs]; exact ih
    · have e : ∀ (b : Act) (v : Value), (b.put (dstOf ops k) v).tmps[d]? = b.tmps[d]? := by
        intro b v
        cases hk : dstOf ops k with
        | none => rfl
        | some d' =>
          have hne : d' ≠ d := fun h' => hd (by rw [hk, h'])
          simp [Act.put, hne]
      split <;> split <;> (try rw [e]) <;> (try rw [e]) <;> exact ih

theorem canon_put {vs : Nat → Value} {sel : Nat → Bool} {a : Act} {i : Nat} (hs : sel i = false) : ∀ m, i < m → (∀ j, j < m → j ≠ i → ∀ d, dstOf ops j = some d → dstOf ops i ≠ some d) →
    canon ops vs (fun j => sel j || j == i) a m = (canon ops vs sel a m).put (dstOf ops i) (vs i)
  | 0, h, _ => by omega
  | k + 1, hi, hd => by
    by_cases hk : k = i
    · subst hk
      simp only [canon, hs, beq_self_eq_true, Bool.or_true, if_true, Bool.false_eq_true, if_false]
      congr 1
      exact canon_congr k (fun j hj => ⟨by simp; omega, fun _ => rfl⟩)
    · have ih := canon_put (a := a) (vs := vs) hs k (by omega) (fun j hj => hd j (by omega))
      simp only [canon, ih]
      have : (sel k || k == i) = sel k := by simp [hk]
      rw [this]
      split
      · rw [Act.put_comm]
        intro d hd1 hd2
        exact hd k (by omega) hk d hd2 hd1
      · rfl

/-- Whatever world lies above w0, the operation leaves v and makes memory at most. -/
def Mk (P : Program) (ops : Array Oper) (w0 : World) (o : Oper) (v : Value) (a : Act) : Prop :=
  (Region.wanted o (yielded ops a.tmps) = true ∧ ∀ w, Below w0.heap.size w0 w → ∀ K : Act → World → Prop, (∀ w', Below w.heap.size w w' → K (a.put o.dst v) w') → o.wp P a w K (fun _ _ _ => False)) ∨
  (Region.wanted o (yielded ops a.tmps) = false ∧ v = undef)

theorem Act.put_same {a b : Act} {d : Option Tmp} {u v : Value} (hs : a.tmps.size = b.tmps.size) (h : a.put d u = a.put d v) : b.put d u = b.put d v := by
  cases d with
  | none => rfl
  | some d =>
    by_cases hd : d < a.tmps.size
    · have h1 : (a.put (some d) u).tmps[d]? = (a.put (some d) v).tmps[d]? := by rw [h]
      have h2 : u = v := by simpa [Act.put, Array.getElem?_setIfInBounds, hd] using h1
      rw [h2]
    · have hd' : ¬ d < b.tmps.size := by rw [← hs]; exact hd
      simp [Act.put, Array.setIfInBounds, hd']

/-- One that makes memory at most, carried out where its operands hold the same. -/
theorem Mk.wpOp {w0 w : World} {i : Nat} {o : Oper} {v : Value} {a b : Act} (hi : ops[i]? = some o) (hs : a.tmps.size = b.tmps.size)
    (he : execOp b.eval o = execOp a.eval o) (hw : Region.wanted o (yielded ops b.tmps) = Region.wanted o (yielded ops a.tmps)) (h : Mk P ops w0 o v a) (hB : Below w0.heap.size w0 w)
    {K : Act → World → Prop} {Q : Exit → Act → World → Prop} (hK : ∀ w', Below w.heap.size w w' → K (b.put o.dst v) w') : Go.wpOp P ops Q i K b w := by
  unfold Go.wpOp
  simp only [hi]
  rcases h with ⟨h1, h2⟩ | ⟨h1, rfl⟩
  · rw [hw, if_pos h1]
    left
    have h3 := h2 w hB (fun a' w' => a' = a.put o.dst v ∧ Below w.heap.size w w') (fun w' hb => ⟨rfl, hb⟩)
    unfold Oper.wp at h3 ⊢
    rw [he]
    generalize (execOp a.eval o).run P w = r at h3 ⊢
    cases r with
    | ok n w' =>
      cases n <;> simp only [Oper.upon] at h3 ⊢ <;> first | exact h3.elim | skip
      case value u => rw [Act.put_same hs h3.1]; exact hK _ h3.2
      case skip => rw [Act.put_same hs h3.1]; exact hK _ h3.2
      case enter f args =>
        refine Calls.mono h3 (fun e w'' h4 => ?_)
        cases e with
        | returned u => simp only at h4 ⊢; rw [Act.put_same hs h4.1]; exact hK _ h4.2
        | panicked c => exact h4.elim
        | outgrown => obtain ⟨_, _, h5⟩ := h4; exact h5.elim
      case defer d =>
        exfalso
        have := congrArg Act.defers h3.1
        have e1 : ∀ (x : Act) (d : Option Tmp) (u : Value), (x.put d u).defers = x.defers := by intro x d u; cases d <;> rfl
        rw [e1, e1] at this
        exact absurd (congrArg List.length this) (by simp)
      case row row args =>
        refine Rows.mono h3 (fun u w'' h4 => ?_)
        rw [Act.put_same hs h4.1]; exact hK _ h4.2
    | halt x w' => cases x <;> simp only [Oper.upon] at h3 <;> exact h3.elim
  · rw [hw, if_neg (by rw [h1]; decide)]
    exact hK _ (Below.refl _ _)

/-- May the operations before number m come in whatever order, those from m on behind all of them, one after the other? (q: one of them that makes a block.) -/
def freeB (ops : Array Oper) (m : Nat) (q : Option Nat) : Bool :=
  (List.range ops.size).all fun i => match ops[i]? with
    | none => true
    | some o =>
      (match o.op with | .select .. => false | _ => true) &&
      o.after.toList.all (fun e => !Region.binds .any e || decide (e.on < i)) &&
      (decide (m ≤ i) || (List.range m).all fun j => i == j || (match dstOf ops j with
        | none => true
        | some d => o.dst != some d && (!(o.looksAt ops).contains d || (waits o j && q != some j) || (match ops[j]? with | some p => waits p i | none => false))))
def tailB (ops : Array Oper) (m : Nat) : Bool := decide (m = ops.size) || (decide (m < ops.size) && Region.sinkB .any ops m && Region.chainB .any ops m)

structure FreeAt (ops : Array Oper) (m : Nat) (q : Option Nat) (i : Nat) (o : Oper) : Prop where
  sel : ∀ cs b, o.op ≠ .select cs b
  back : ∀ e ∈ o.after, Region.binds .any e = true → e.on < i
  apart : i < m → ∀ j, j < m → j ≠ i → ∀ d, dstOf ops j = some d → o.dst ≠ some d ∧ (d ∈ o.looksAt ops → (waits o j = true ∧ q ≠ some j) ∨ ∃ p, ops[j]? = some p ∧ waits p i = true)
theorem freeB_spec {m : Nat} {q : Option Nat} (h : freeB ops m q = true) {i : Nat} {o : Oper} (hi : ops[i]? = some o) : FreeAt ops m q i o := by
  have hlt : i < ops.size := (Array.getElem?_eq_some_iff.1 hi).1
  have h1 := List.all_eq_true.1 h i (List.mem_range.2 hlt)
  simp only [hi, Bool.and_eq_true] at h1
  obtain ⟨⟨h1, h2⟩, h3⟩ := h1
  refine ⟨fun cs b e => by rw [e] at h1; simp at h1, fun e he hb => ?_, fun him j hj hne d hd => ?_⟩
  · have := List.all_eq_true.1 h2 e (by simpa using he)
    simpa [hb] using this
  · simp only [Bool.or_eq_true, decide_eq_true_eq] at h3
    rcases h3 with h3 | h3
    · omega
    · have := List.all_eq_true.1 h3 j (List.mem_range.2 hj)
      simp only [hd, Bool.or_eq_true, beq_iff_eq, Bool.and_eq_true, bne_iff_ne, Bool.not_eq_true'] at this
      rcases this with h4 | ⟨h4, h5⟩
      · exact absurd h4.symm hne
      · refine ⟨h4, fun hm => ?_⟩
        rcases h5 with (h5 | h5) | h5
        · exact absurd (List.contains_iff_mem.2 hm) (by rw [h5]; decide)
        · exact .inl h5
        · right
          cases hp : ops[j]? with
          | none => rw [hp] at h5; exact absurd h5 (by simp)
          | some p => rw [hp] at h5; exact ⟨p, rfl, h5⟩

/-- Which have come up. -/
def selOf (listed : Array Bool) (j : Nat) : Bool := listed.getD j true

theorem looks_eval {m i : Nat} {q : Option Nat} {o : Oper} {vs vs' : Nat → Value} {listed : Array Bool} {a : Act} (hF : freeB ops m q = true) (hi : ops[i]? = some o) (him : i < m) (inv : HeadInv .any ops m listed) (hms : m ≤ ops.size)
    (hr : i ∈ Region.ready .any ops listed) (hv : ∀ j, q ≠ some j → vs j = vs' j) :
    ∀ d ∈ o.looksAt ops, (canon ops vs (selOf listed) a m).tmps[d]? = (canon ops vs' (fun j => decide (j < i) && q != some j) a m).tmps[d]? := by
  intro d hd
  have F := freeB_spec hF hi
  obtain ⟨hu, o', ho', hall⟩ := mem_ready.1 hr
  have : o' = o := Option.some.inj (ho'.symm.trans hi)
  subst this
  refine canon_tmp m (fun j hj hjd => ?_)
  by_cases hji : j = i
  · subst hji
    have e1 : selOf listed j = false := hu
    simp [e1]
  · obtain ⟨_, h2⟩ := F.apart him j hj hji d hjd
    rcases h2 hd with ⟨h3, h4⟩ | ⟨p, hp, h3⟩
    · obtain ⟨e, he, hb, hon⟩ := waits_spec h3
      have h5 := hall e he hb
      rw [hon] at h5
      have hjs : j < listed.size := by rw [inv.size]; omega
      have e1 : selOf listed j = true := by
        unfold selOf
        simp [hjs] at h5 ⊢; exact h5
      have e2 : j < i := by rw [← hon]; exact F.back e he hb
      refine ⟨by simp [e1, e2, h4], fun _ => hv j h4⟩
    · obtain ⟨e, he, hb, hon⟩ := waits_spec h3
      have e1 : selOf listed j = false := by
        cases hs : listed.getD j false with
        | true =>
          have h5 := inv.closed j p hp hs e he hb
          rw [hon, getD_both hu] at h5
          cases h5
        | false => exact getD_in (by rw [inv.size]; omega) hs
      have e2 : ¬ j < i := by
        have := (freeB_spec hF hp).back e he hb
        omega
      simp [e1, e2]

structure ListedTo (ops : Array Oper) (listed : Array Bool) (k : Nat) : Prop where
  size : listed.size = ops.size
  yes : ∀ j, j < k → listed.getD j true = true
  no : ∀ j, k ≤ j → j < ops.size → listed.getD j true = false

theorem tail_any {m : Nat} {q : Option Nat} (hF : freeB ops m q = true) (hT : tailB ops m = true) {Q : Exit → Act → World → Prop} :
    ∀ (f k : Nat) (listed : Array Bool) (a : Act) (w : World), m ≤ k → k ≤ ops.size → ops.size - k ≤ f → ListedTo ops listed k → wpList P ops Q (ops.toList.drop k) a w → wpAny P .any ops Q f listed a w := by
  intro f
  induction f with
  | zero =>
    intro k listed a w hm hk hf hl h
    have hks : k = ops.size := by omega
    subst hks
    refine ⟨List.eq_nil_iff_forall_not_mem.2 fun i hi => ?_, ?_⟩
    · obtain ⟨hu, o, ho, _⟩ := mem_ready.1 hi
      have := hl.yes i (Array.getElem?_eq_some_iff.1 ho).1
      rw [this] at hu; cases hu
    · rw [List.drop_eq_nil_of_le (by simp)] at h; exact h
  | succ f ih =>
    intro k listed a w hm hk hf hl h
    by_cases hks : k = ops.size
    · subst hks
      have hno : Region.ready .any ops listed = [] := List.eq_nil_iff_forall_not_mem.2 fun i hi => by
        obtain ⟨hu, o, ho, _⟩ := mem_ready.1 hi
        have := hl.yes i (Array.getElem?_eq_some_iff.1 ho).1
        rw [this] at hu; cases hu
      refine ⟨fun _ => ?_, by rw [hno]; exact fun _ hx => absurd hx List.not_mem_nil⟩
      rw [List.drop_eq_nil_of_le (by simp)] at h; exact h
    · have hlt : k < ops.size := by omega
      obtain ⟨ok, hok⟩ : ∃ ok, ops[k]? = some ok := ⟨_, Array.getElem?_eq_getElem hlt⟩
      have hkr : k ∈ Region.ready .any ops listed := mem_ready.2 ⟨hl.no k (Nat.le_refl _) hlt, ok, hok, fun e he hb => by
        have := (freeB_spec hF hok).back e he hb
        have h2 := hl.yes e.on this
        have h3 : e.on < listed.size := by rw [hl.size]; omega
        simp [h3] at h2 ⊢; exact h2⟩
      refine ⟨fun h0 => absurd hkr (by rw [h0]; exact List.not_mem_nil), fun i hi => ?_⟩
      have hik : i = k := by
        obtain ⟨hu, o, ho, hall⟩ := mem_ready.1 hi
        have hisz : i < ops.size := (Array.getElem?_eq_some_iff.1 ho).1
        have hge : k ≤ i := by
          refine Nat.le_of_not_lt fun h' => ?_
          rw [hl.yes i h'] at hu; cases hu
        refine Nat.le_antisymm (Nat.le_of_not_lt fun hgt => ?_) hge
        unfold tailB at hT
        simp only [Bool.or_eq_true, decide_eq_true_eq, Bool.and_eq_true] at hT
        rcases hT with hT | ⟨_, hc⟩
        · omega
        · have h1 := List.all_eq_true.1 hc i (List.mem_range.2 hisz)
          simp only [Bool.or_eq_true, decide_eq_true_eq] at h1
          rcases h1 with h1 | h1
          · omega
          · obtain ⟨o', ho', e, he, hb, hon⟩ := Region.waitsFor_spec h1
            have : o' = o := Option.some.inj (ho'.symm.trans ho)
            subst this
            have h2 := hall e he hb
            rw [hon, getD_both (hl.no (i - 1) (by omega) (by omega))] at h2
            cases h2
      subst hik
      have hd : ops.toList.drop i = ok :: ops.toList.drop (i + 1) := by
        rw [List.drop_eq_getElem_cons (by simpa using hlt)]
        congr 1
        simpa [Array.getElem?_eq_getElem hlt] using hok
      rw [hd] at h
      have step : ∀ a w, wpList P ops Q (ops.toList.drop (i + 1)) a w → wpAny P .any ops Q f (listed.setIfInBounds i true) a w := fun a w hh =>
        ih (i + 1) _ a w (by omega) (by omega) (by omega) ⟨by simp [hl.size], fun j hj => by
          by_cases hji : j = i
          · subst hji; simp [hl.size, hlt]
          · rw [getD_set_ne true (Ne.symm hji)]; exact hl.yes j (by omega), fun j hj hjs => by
          rw [getD_set_ne true (by omega)]; exact hl.no j (by omega) hjs⟩ hh
      unfold Go.wpOp
      simp only [hok]
      simp only [wpList] at h
      split
      · rename_i hw
        rw [if_pos hw] at h
        exact h.imp (Oper.wp_mono step) id
      · rename_i hw
        rw [if_neg hw] at h
        exact step _ _ h

theorem countP_lt {α : Type} {p p' : α → Bool} {x : α} : ∀ {l : List α}, x ∈ l → (∀ y, p' y = true → p y = true) → p x = true → p' x = false → l.countP p' < l.countP p
  | y :: r, hx, hle, h1, h2 => by
    have hr : r.countP p' ≤ r.countP p := List.countP_mono_left (fun z _ => hle z)
    rcases List.mem_cons.1 hx with rfl | hx
    · rw [List.countP_cons_of_pos h1, List.countP_cons_of_neg (by rw [h2]; decide)]; omega
    · have := countP_lt hx hle h1 h2
      by_cases hy : p' y = true
      · rw [List.countP_cons_of_pos hy, List.countP_cons_of_pos (hle y hy)]; omega
      · rw [List.countP_cons_of_neg hy]
        by_cases hy2 : p y = true
        · rw [List.countP_cons_of_pos hy2]; omega
        · rw [List.countP_cons_of_neg hy2]; exact this

/-- An operation that makes a block. -/
structure Makes (P : Program) (o : Oper) (t : TypeId) (z : Array Value) : Prop where
  guard : o.guard = none
  run : ∀ (a : Act) (w : World), (execOp a.eval o).run P w = .ok (.value (.pointer (some ⟨w.heap.size, 0, none⟩))) (w.alloc (.cells z t))

def withB (vs : Nat → Value) (q : Option Nat) (B : Nat) (j : Nat) : Value := if q = some j then .pointer (some ⟨B, 0, none⟩) else vs j

theorem getLooks {o : Oper} {a b : Act} (hsel : ∀ cs b, o.op ≠ .select cs b) (_ : a.tmps.size = b.tmps.size) (h : ∀ d ∈ o.looksAt ops, a.tmps[d]? = b.tmps[d]?) :
    execOp a.eval o = execOp b.eval o ∧ Region.wanted o (yielded ops a.tmps) = Region.wanted o (yielded ops b.tmps) := by
  constructor
  · refine execOp_congr o hsel fun x hx => ?_
    cases x with
    | tmp t =>
      have : t ∈ o.looksAt ops := List.mem_append_left _ (List.mem_filterMap.2 ⟨.tmp t, by simpa using hx, rfl⟩)
      have h2 := h t this
      simp only [Act.eval]
      rw [Array.getD_eq_getD_getElem?, Array.getD_eq_getD_getElem?, h2]
    | const v => rfl
    | global g => rfl
    | func f => rfl
  · unfold Region.wanted
    cases hg : o.guard with
    | none => rfl
    | some g =>
      obtain ⟨g, want⟩ := g
      have : yielded ops a.tmps g = yielded ops b.tmps g := by
        unfold yielded
        cases hd : (ops[g]?).bind (·.dst) with
        | none => rfl
        | some d =>
          have : d ∈ o.looksAt ops := List.mem_append_right _ (by rw [hg]; simp [hd])
          simp only [Option.bind_some, h d this]
      simp only [this]

theorem free_any {m : Nat} {q : Option Nat} {t : TypeId} {z : Array Value} (hF : freeB ops m q = true) (hT : tailB ops m = true) {Q : Exit → Act → World → Prop} {a : Act} {w0 : World} {vs : Nat → Value}
    (hN : ∀ i o, i < m → ops[i]? = some o → q ≠ some i → Mk P ops w0 o (vs i) (canon ops vs (fun j => decide (j < i) && q != some j) a m))
    (hA : ∀ i o, q = some i → ops[i]? = some o → Makes P o t z)
    (hK : ∀ B w, Below w0.heap.size w0 w → (q.isSome = true → w0.heap.size ≤ B ∧ Has w B t z) → wpList P ops Q (ops.toList.drop m) (canon ops (withB vs q B) (fun _ => true) a m) w) (hms : m ≤ ops.size) (hqm : ∀ i, q = some i → i < m) :
    ∀ (f : Nat) (listed : Array Bool) (B : Nat) (w : World), HeadInv .any ops m listed → (List.range m).countP (fun j => !selOf listed j) + (ops.size - m) ≤ f →
      Below w0.heap.size w0 w → (∀ i, q = some i → selOf listed i = true → w0.heap.size ≤ B ∧ Has w B t z) → wpAny P .any ops Q f listed (canon ops (withB vs q B) (selOf listed) a m) w := by
  intro f
  induction f with
  | zero =>
    intro listed B w inv hf hB hq
    have hall : ∀ j, j < m → selOf listed j = true := fun j hj => by
      have h0 : (List.range m).countP (fun j => !selOf listed j) = 0 := by omega
      have := List.countP_eq_zero.1 h0 j (List.mem_range.2 hj)
      simpa using this
    rw [canon_congr (vs' := withB vs q B) (sel' := fun _ => true) m (fun j hj => ⟨hall j hj, fun _ => rfl⟩)]
    exact tail_any hF hT 0 m listed _ w (Nat.le_refl _) hms (by omega) ⟨inv.size, hall, inv.tail⟩ (hK B w hB (fun h => by
      obtain ⟨i, hi⟩ := Option.isSome_iff_exists.1 h
      exact hq i hi (hall i (hqm i hi))))
  | succ f ih =>
    intro listed B w inv hf hB hq
    by_cases hall : ∀ j, j < m → selOf listed j = true
    · rw [canon_congr (vs' := withB vs q B) (sel' := fun _ => true) m (fun j hj => ⟨hall j hj, fun _ => rfl⟩)]
      exact tail_any hF hT (f + 1) m listed _ w (Nat.le_refl _) hms (by omega) ⟨inv.size, hall, inv.tail⟩ (hK B w hB (fun h => by
        obtain ⟨i, hi⟩ := Option.isSome_iff_exists.1 h
        exact hq i hi (hall i (hqm i hi))))
    · -- the first one that has not come up may come up
      have hex : ∃ j, j < m ∧ selOf listed j = false ∧ ∀ k, k < j → selOf listed k = true := by
        have h1 : ∃ j, j < m ∧ selOf listed j = false := by
          refine Classical.byContradiction fun hno => hall fun j hj => ?_
          cases hs : selOf listed j with
          | true => rfl
          | false => exact absurd ⟨j, hj, hs⟩ hno
        obtain ⟨j, hj⟩ := h1
        induction j using Nat.strongRecOn with
        | _ j ihj =>
          by_cases hk : ∀ k, k < j → selOf listed k = true
          · exact ⟨j, hj.1, hj.2, hk⟩
          · have : ∃ k, k < j ∧ selOf listed k = false := by
              refine Classical.byContradiction fun hno => hk fun k hk' => ?_
              cases hs : selOf listed k with
              | true => rfl
              | false => exact absurd ⟨k, hk', hs⟩ hno
            obtain ⟨k, hk1, hk2⟩ := this
            exact ihj k hk1 ⟨by omega, hk2⟩
      obtain ⟨j, hjm, hju, hjb⟩ := hex
      obtain ⟨oj, hoj⟩ : ∃ oj, ops[j]? = some oj := ⟨_, Array.getElem?_eq_getElem (by omega)⟩
      have hjr : j ∈ Region.ready .any ops listed := mem_ready.2 ⟨hju, oj, hoj, fun e he hb => by
        have h1 := (freeB_spec hF hoj).back e he hb
        have h2 := hjb e.on h1
        have h3 : e.on < listed.size := by rw [inv.size]; omega
        unfold selOf at h2
        simp [h3] at h2 ⊢; exact h2⟩
      refine ⟨fun h0 => absurd hjr (by rw [h0]; exact List.not_mem_nil), fun i hi => ?_⟩
      obtain ⟨hu, o, ho, hafter⟩ := mem_ready.1 hi
      have hisz : i < ops.size := (Array.getElem?_eq_some_iff.1 ho).1
      have him : i < m := by
        unfold tailB at hT
        simp only [Bool.or_eq_true, decide_eq_true_eq, Bool.and_eq_true] at hT
        rcases hT with hT | ⟨⟨hlt, hs⟩, hc⟩
        · omega
        · exact Nat.lt_of_not_le fun hge => tail_waits hs hc hlt inv _ j rfl hjm hju i hge hi
      have hF' := freeB_spec hF ho
      have hdst : dstOf ops i = o.dst := by simp [dstOf, ho]
      have hdis : ∀ k, k < m → k ≠ i → ∀ d, dstOf ops k = some d → dstOf ops i ≠ some d := fun k hk hne d hd => by
        rw [hdst]; exact (hF'.apart him k hk hne d hd).1
      have hsel' : selOf (listed.setIfInBounds i true) = fun k => selOf listed k || k == i := by
        funext k
        unfold selOf
        by_cases hki : k = i
        · subst hki
          have : k < listed.size := by rw [inv.size]; exact hisz
          simp [this]
        · rw [getD_set_ne true (Ne.symm hki)]
          simp [hki]
      have hcount : (List.range m).countP (fun k => !selOf (listed.setIfInBounds i true) k) < (List.range m).countP (fun k => !selOf listed k) := by
        refine countP_lt (x := i) (List.mem_range.2 him) (fun y hy => ?_) (by simp [selOf, hu]) (by rw [hsel']; simp)
        rw [hsel'] at hy
        simp at hy
        simp [hy.1]
      have hsz : ∀ vs' sel', (canon ops vs' sel' a m).tmps.size = a.tmps.size := fun vs' sel' => (canon_size m).1
      by_cases hqi : q = some i
      · have hmk := hA i o hqi ho
        unfold Go.wpOp
        simp only [ho]
        have hw : Region.wanted o (yielded ops (canon ops (withB vs q B) (selOf listed) a m).tmps) = true := by simp [Region.wanted, hmk.guard]
        rw [if_pos hw]
        left
        unfold Oper.wp
        rw [hmk.run]
        simp only [Oper.upon]
        have e1 : canon ops (withB vs q B) (selOf listed) a m = canon ops (withB vs q w.heap.size) (selOf listed) a m :=
          canon_congr m (fun k hk => ⟨rfl, fun hs => by
            unfold withB
            have : q ≠ some k := fun h' => by
              rw [hqi] at h'; cases h'
              unfold selOf at hs; rw [hu] at hs; cases hs
            simp [this]⟩)
        have e2 : (canon ops (withB vs q B) (selOf listed) a m).put o.dst (.pointer (some ⟨w.heap.size, 0, none⟩)) = canon ops (withB vs q w.heap.size) (selOf (listed.setIfInBounds i true)) a m := by
          rw [hsel', canon_put hu m him hdis, e1, hdst]
          simp [withB, hqi]
        rw [e2]
        refine ih _ w.heap.size _ (inv.set hi him) (by omega) (hB.alloc hB.size _) (fun k hk _ => ⟨hB.size, Has.new w t z⟩)
      · have hev := looks_eval (vs := withB vs q B) (vs' := vs) (a := a) hF ho him inv hms hi (fun k hk => by simp [withB, hk])
        obtain ⟨he, hw⟩ := getLooks (ops := ops) (o := o) hF'.sel (by rw [hsz, hsz]) hev
        refine (hN i o him ho hqi).wpOp ho (by rw [hsz, hsz]) he hw hB (fun w' hb => ?_)
        have e2 : (canon ops (withB vs q B) (selOf listed) a m).put o.dst (vs i) = canon ops (withB vs q B) (selOf (listed.setIfInBounds i true)) a m := by
          rw [hsel', canon_put hu m him hdis, hdst]
          simp [withB, hqi]
        rw [e2]
        refine ih _ B w' (inv.set hi him) (by omega) (hB.trans (hb.mono hB.size)) (fun k hk hs => ?_)
        have hk2 : selOf listed k = true := by
          rw [hsel'] at hs
          have hki : k ≠ i := fun h' => hqi (by rw [← h']; exact hk)
          simpa [hki] using hs
        obtain ⟨h1, h2⟩ := hq k hk hk2
        exact ⟨h1, h2.after hb⟩
end
end Go.Proofs
namespace Go.Proofs
open Go.RowKit
section
variable {P : Program} {ops : Array Oper}

theorem canon_cut {vs : Nat → Value} {s : Nat → Bool} {a : Act} {i : Nat} : ∀ m, i ≤ m → canon ops vs (fun j => decide (j < i) && s j) a m = canon ops vs s a i
  | 0, h => by have : i = 0 := by omega
               subst this; rfl
  | k + 1, h => by
    by_cases hi : i = k + 1
    · subst hi
      exact canon_congr _ (fun j hj => ⟨by simp [hj], fun _ => rfl⟩)
    · have := canon_cut (vs := vs) (s := s) (a := a) (i := i) k (by omega)
      simp only [canon]
      have e : (decide (k < i) && s k) = false := by simp; omega
      rw [if_neg (by rw [e]; decide), this]

/-- What is owed for the operations that make memory at most, in the order of the text. -/
def Obl (P : Program) (ops : Array Oper) (w0 : World) (q : Option Nat) : Nat → List Oper → Act → (Act → Prop) → Prop
  | _, [], a, K => K a
  | i, o :: r, a, K => (q = some i ∧ Obl P ops w0 q (i + 1) r a K) ∨ (q ≠ some i ∧ ∃ v, Mk P ops w0 o v a ∧ Obl P ops w0 q (i + 1) r (a.put o.dst v) K)

theorem Obl.all {w0 : World} {q : Option Nat} {a0 : Act} {K : Act → Prop} {m : Nat} : ∀ (l : List Oper) (i : Nat) (vs0 : Nat → Value), i + l.length = m → (∀ j, l[j]? = (ops[i + j]?)) ∨ (∀ j, j < l.length → l[j]? = ops[i + j]?) →
    Obl P ops w0 q i l (canon ops vs0 (fun j => q != some j) a0 i) K →
    ∃ vs : Nat → Value, (∀ j, j < i → vs j = vs0 j) ∧ (∀ j o, i ≤ j → j < m → ops[j]? = some o → q ≠ some j → Mk P ops w0 o (vs j) (canon ops vs (fun k => q != some k) a0 j)) ∧ K (canon ops vs (fun k => q != some k) a0 m)
  | [], i, vs0, hm, _, h => ⟨vs0, fun _ _ => rfl, fun j o h1 h2 => by simp at hm; omega, by simp at hm; subst hm; exact h⟩
  | o :: r, i, vs0, hm, hl, h => by
    have hl' : ∀ j, j < (o :: r).length → (o :: r)[j]? = ops[i + j]? := fun j hj => by rcases hl with hl | hl; exact hl j; exact hl j hj
    have h0 : ops[i]? = some o := by simpa using (hl' 0 (by simp)).symm
    have hr : ∀ j, j < r.length → r[j]? = ops[i + 1 + j]? := fun j hj => by
      have := hl' (j + 1) (by simpa using hj)
      simpa [Nat.add_assoc, Nat.add_comm 1 j] using this
    rcases h with ⟨hq, h⟩ | ⟨hq, v, hv, h⟩
    · have e : canon ops vs0 (fun k => q != some k) a0 (i + 1) = canon ops vs0 (fun k => q != some k) a0 i := by simp [canon, hq]
      obtain ⟨vs, h1, h2, h3⟩ := Obl.all (m := m) r (i + 1) vs0 (by simp at hm; omega) (.inr hr) (by rw [e]; exact h)
      refine ⟨vs, fun j hj => h1 j (by omega), fun j o' hij hjm ho hqj => ?_, h3⟩
      by_cases hji : j = i
      · subst hji; exact absurd hq hqj
      · exact h2 j o' (by omega) hjm ho hqj
    · have hd : dstOf ops i = o.dst := by simp [dstOf, h0]
      have hb : (q != some i) = true := by simpa using hq
      obtain ⟨vs, h1, h2, h3⟩ := Obl.all (m := m) r (i + 1) (fun j => if j = i then v else vs0 j) (by simp at hm; omega) (.inr hr) (by
        have e : canon ops (fun j => if j = i then v else vs0 j) (fun k => q != some k) a0 (i + 1) = (canon ops vs0 (fun k => q != some k) a0 i).put o.dst v := by
          simp only [canon, hb, if_true, hd]
          congr 1
          exact canon_congr i (fun j hj => ⟨rfl, fun _ => by simp [show j ≠ i by omega]⟩)
        rw [e]; exact h)
      refine ⟨vs, fun j hj => by rw [h1 j (by omega)]; simp [show j ≠ i by omega], fun j o' hij hjm ho hqj => ?_, h3⟩
      by_cases hji : j = i
      · subst hji
        have : o' = o := Option.some.inj (ho.symm.trans h0)
        subst this
        have e1 : vs j = v := by rw [h1 j (by omega)]; simp
        have e2 : canon ops vs (fun k => q != some k) a0 j = canon ops vs0 (fun k => q != some k) a0 j :=
          canon_congr j (fun k hk => ⟨rfl, fun _ => by rw [h1 k (by omega)]; simp [show k ≠ j by omega]⟩)
        rw [e1, e2]; exact hv
      · exact h2 j o' (by omega) hjm ho hqj

variable {Q : Exit → Act → World → Prop} {a : Act} {w : World} {l : List Oper}

theorem head0 (m : Nat) : HeadInv .any l.toArray m (Array.replicate l.toArray.size false) :=
  ⟨by simp, fun j oj _ hl => by rw [getD_replicate_false] at hl; exact Bool.noConfusion hl, fun t _ ht => getD_in (by simpa using ht) (getD_replicate_false _ _)⟩
theorem count_le {p : Nat → Bool} (m : Nat) : (List.range m).countP p ≤ m := by
  have := List.countP_le_length (p := p) (l := List.range m); simpa using this

theorem any_free0 {m : Nat} (hF : freeB l.toArray m none = true) (hT : tailB l.toArray m = true) (hms : m ≤ l.length)
    (h : Obl P l.toArray w none 0 (l.take m) a (fun a' => ∀ w', Below w.heap.size w w' → wpList P l.toArray Q (l.drop m) a' w')) :
    wpAny P .any l.toArray Q l.toArray.size (Array.replicate l.toArray.size false) a { w with drawn := w.drawn + 1 } := by
  obtain ⟨vs, _, h2, h3⟩ := Obl.all (m := m) (a0 := a) (l.take m) 0 (fun _ => undef) (by simp; omega) (.inr fun j hj => by
    have : j < m := by simp at hj; omega
    simp [this]) h
  have hcut := fun i (hi : i ≤ m) => canon_cut (ops := l.toArray) (vs := vs) (s := fun j => (none : Option Nat) != some j) (a := a) m hi
  have e0 : a = canon l.toArray (withB vs none 0) (selOf (Array.replicate l.toArray.size false)) a m := by
    have e1 : canon l.toArray (withB vs none 0) (selOf (Array.replicate l.toArray.size false)) a m = canon l.toArray vs (fun j => decide (j < 0) && ((none : Option Nat) != some j)) a m :=
      canon_congr m (fun j hj => ⟨by simp [selOf, show j < l.length by omega], fun _ => rfl⟩)
    rw [e1, hcut 0 (by omega)]; rfl
  have := free_any (P := P) (ops := l.toArray) (m := m) (q := none) (t := 0) (z := #[]) hF hT (Q := Q) (a := a) (w0 := w) (vs := vs)
    (fun i o hi ho hq => by rw [hcut i (by omega)]; exact h2 i o (by omega) hi ho hq) (fun i o hq => by cases hq)
    (fun B w' hb _ => by
      have e : canon l.toArray (withB vs none B) (fun _ => true) a m = canon l.toArray vs (fun k => (none : Option Nat) != some k) a m := canon_congr m (fun j _ => ⟨by simp, fun _ => rfl⟩)
      rw [e]; simpa using h3 w' hb) (by simpa using hms) (fun i hi => by cases hi)
    l.toArray.size (Array.replicate l.toArray.size false) 0 { w with drawn := w.drawn + 1 } (head0 m)
    (by have := count_le (p := fun j => !selOf (Array.replicate l.toArray.size false) j) m; simp only [List.size_toArray] at *; omega) (Below.refl _ w).drew (fun i hi => by cases hi)
  rw [← e0] at this
  exact this

theorem any_free1 {m i : Nat} {o : Oper} {t : TypeId} {z : Array Value} (hF : freeB l.toArray m (some i) = true) (hT : tailB l.toArray m = true) (hms : m ≤ l.length) (him : i < m) (ho : l[i]? = some o) (hA : Makes P o t z)
    (h : Obl P l.toArray w (some i) 0 (l.take m) a (fun a' => ∀ B w', Below w.heap.size w w' → w.heap.size ≤ B → Has w' B t z → wpList P l.toArray Q (l.drop m) (a'.put o.dst (.pointer (some ⟨B, 0, none⟩))) w')) :
    wpAny P .any l.toArray Q l.toArray.size (Array.replicate l.toArray.size false) a { w with drawn := w.drawn + 1 } := by
  obtain ⟨vs, _, h2, h3⟩ := Obl.all (m := m) (a0 := a) (l.take m) 0 (fun _ => undef) (by simp; omega) (.inr fun j hj => by
    have : j < m := by simp at hj; omega
    simp [this]) h
  have ho' : l.toArray[i]? = some o := by simpa using ho
  have hdst : dstOf l.toArray i = o.dst := by simp [dstOf, ho]
  have hcut := fun k (hk : k ≤ m) => canon_cut (ops := l.toArray) (vs := vs) (s := fun j => some i != some j) (a := a) m hk
  have e0 : a = canon l.toArray (withB vs (some i) 0) (selOf (Array.replicate l.toArray.size false)) a m := by
    have e1 : canon l.toArray (withB vs (some i) 0) (selOf (Array.replicate l.toArray.size false)) a m = canon l.toArray vs (fun j => decide (j < 0) && (some i != some j)) a m :=
      canon_congr m (fun j hj => ⟨by simp [selOf, show j < l.length by omega], fun hs => by simp [selOf, show j < l.length by omega] at hs⟩)
    rw [e1, hcut 0 (by omega)]; rfl
  have := free_any (P := P) (ops := l.toArray) (m := m) (q := some i) (t := t) (z := z) hF hT (Q := Q) (a := a) (w0 := w) (vs := vs)
    (fun k o' hk hok hq => by rw [hcut k (by omega)]; exact h2 k o' (by omega) hk hok hq) (fun k o' hq hok => by cases hq; rw [ho'] at hok; cases hok; exact hA)
    (fun B w' hb hq => by
      obtain ⟨h5, h6⟩ := hq rfl
      have hdis : ∀ k, k < m → k ≠ i → ∀ d, dstOf l.toArray k = some d → dstOf l.toArray i ≠ some d := fun k hk hne d hd => by
        rw [hdst]; exact ((freeB_spec hF ho').apart him k hk hne d hd).1
      have e : canon l.toArray (withB vs (some i) B) (fun _ => true) a m = (canon l.toArray vs (fun k => some i != some k) a m).put o.dst (.pointer (some ⟨B, 0, none⟩)) := by
        have e1 := canon_put (ops := l.toArray) (vs := withB vs (some i) B) (sel := fun k => some i != some k) (a := a) (i := i) (by simp) m him hdis
        have e2 : (fun j => (some i != some j) || j == i) = fun _ => true := by
          funext j
          by_cases hj : j = i
          · simp [hj]
          · simp [hj, Ne.symm hj]
        rw [e2] at e1
        rw [e1, hdst]
        have e3 : canon l.toArray (withB vs (some i) B) (fun k => some i != some k) a m = canon l.toArray vs (fun k => some i != some k) a m := canon_congr m (fun j _ => ⟨rfl, fun hs => by
          have : ¬ i = j := by simpa using hs
          simp [withB, this]⟩)
        rw [e3]
        simp [withB]
      rw [e]; simpa using h3 B w' hb h5 h6) (by simpa using hms) (fun k hk => by cases hk; exact him)
    l.toArray.size (Array.replicate l.toArray.size false) 0 { w with drawn := w.drawn + 1 } (head0 m)
    (by have := count_le (p := fun j => !selOf (Array.replicate l.toArray.size false) j) m; simp only [List.size_toArray] at *; omega) (Below.refl _ w).drew (fun k hk hs => by cases hk; simp [selOf, show i < l.length by omega] at hs)
  rw [← e0] at this
  exact this

theorem wp_region_free {id m : Nat} (hm : P.follows .mixedOrders = true) (hF : freeB l.toArray m none = true) (hT : tailB l.toArray m = true) (hms : m ≤ l.length)
    (h : Obl P l.toArray w none 0 (l.take m) a (fun a' => ∀ w', Below w.heap.size w w' → wpList P l.toArray Q (l.drop m) a' w')) : (Code.region id l.toArray true).wp P Q a w :=
  wp_region_any hm (any_free0 hF hT hms h)
theorem wp_region_free1 {id m : Nat} (i : Nat) {o : Oper} {t : TypeId} {z : Array Value} (hm : P.follows .mixedOrders = true) (hF : freeB l.toArray m (some i) = true) (hT : tailB l.toArray m = true) (hms : m ≤ l.length) (him : i < m) (ho : l[i]? = some o) (hA : Makes P o t z)
    (h : Obl P l.toArray w (some i) 0 (l.take m) a (fun a' => ∀ B w', Below w.heap.size w w' → w.heap.size ≤ B → Has w' B t z → wpList P l.toArray Q (l.drop m) (a'.put o.dst (.pointer (some ⟨B, 0, none⟩))) w')) :
    (Code.region id l.toArray true).wp P Q a w :=
  wp_region_any hm (any_free1 hF hT hms him ho hA h)

/-- The operations before number m in whatever order, the rest behind them. -/
theorem wp_free {id : Nat} (m : Nat) (hm : P.follows .mixedOrders = true) (hF : freeB l.toArray m none = true) (hT : tailB l.toArray m = true) (hms : m ≤ l.length)
    (h : ∀ K : Act → Prop, (∀ a', (∀ w', Below w.heap.size w w' → wpList P l.toArray Q (l.drop m) a' w') → K a') → Obl P l.toArray w none 0 (l.take m) a K) : (Code.region id l.toArray true).wp P Q a w :=
  wp_region_free hm hF hT hms (h _ fun _ h => h)
theorem wp_free1 {id : Nat} (m i : Nat) {o : Oper} (t : TypeId) (z : Array Value) (hm : P.follows .mixedOrders = true) (hF : freeB l.toArray m (some i) = true) (hT : tailB l.toArray m = true) (hms : m ≤ l.length) (him : i < m) (ho : l[i]? = some o) (hA : Makes P o t z)
    (h : ∀ K : Act → Prop, (∀ a', (∀ B w', Below w.heap.size w w' → w.heap.size ≤ B → Has w' B t z → wpList P l.toArray Q (l.drop m) (a'.put o.dst (.pointer (some ⟨B, 0, none⟩))) w') → K a') → Obl P l.toArray w (some i) 0 (l.take m) a K) :
    (Code.region id l.toArray true).wp P Q a w :=
  wp_region_free1 i hm hF hT hms him ho hA (h _ fun _ h => h)

theorem Obl.val {w0 : World} {q : Option Nat} {i : Nat} {o : Oper} {r : List Oper} {K : Act → Prop} {v : Value} (hq : q ≠ some i) (hg : Region.wanted o (yielded ops a.tmps) = true)
    (hr : ∀ w, Below w0.heap.size w0 w → (execOp a.eval o).run P w = .ok (.value v) w) (h : Obl P ops w0 q (i + 1) r (a.put o.dst v) K) : Obl P ops w0 q i (o :: r) a K :=
  .inr ⟨hq, v, .inl ⟨hg, fun w hb K hK => by unfold Oper.wp; rw [hr w hb]; exact hK _ (Below.refl _ _)⟩, h⟩
theorem Obl.skip {w0 : World} {q : Option Nat} {i : Nat} {o : Oper} {r : List Oper} {K : Act → Prop} (hq : q ≠ some i) (hg : Region.wanted o (yielded ops a.tmps) = false)
    (h : Obl P ops w0 q (i + 1) r (a.put o.dst undef) K) : Obl P ops w0 q i (o :: r) a K :=
  .inr ⟨hq, undef, .inr ⟨hg, rfl⟩, h⟩
theorem Obl.makes {w0 : World} {i : Nat} {o : Oper} {r : List Oper} {K : Act → Prop} (h : Obl P ops w0 (some i) (i + 1) r a K) : Obl P ops w0 (some i) i (o :: r) a K := .inl ⟨rfl, h⟩
/-- A call of a function that is named. -/
theorem Obl.call {w0 : World} {q : Option Nat} {i : Nat} {o : Oper} {r : List Oper} {K : Act → Prop} {v : Value} {f : FuncId} {args : Array Value} (hq : q ≠ some i) (hg : Region.wanted o (yielded ops a.tmps) = true)
    (hr : ∀ w, Below w0.heap.size w0 w → (execOp a.eval o).run P w = .ok (.enter f args) w) (hc : ∀ w, Below w0.heap.size w0 w → Calls P f args w fun e w' => e = .returned v ∧ Below w.heap.size w w')
    (h : Obl P ops w0 q (i + 1) r (a.put o.dst v) K) : Obl P ops w0 q i (o :: r) a K :=
  .inr ⟨hq, v, .inl ⟨hg, fun w hb K hK => by
    unfold Oper.wp; rw [hr w hb]
    exact (hc w hb).mono fun e w' ⟨he, hb'⟩ => by subst he; exact hK _ hb'⟩, h⟩
/-- A whole row is loaded. -/
theorem Obl.row {w0 : World} {q : Option Nat} {i : Nat} {o : Oper} {r : List Oper} {K : Act → Prop} (hq : q ≠ some i) (hgd : o.guard = none) (ty : TypeId) (x : Operand) (ho : o.op = .load ty x) (g : Nat) (hx : a.eval x = .pointer (some ⟨g, 0, none⟩))
    (t : TypeId) (cs : Array Value) (d : TypeDesc) (hg : Has w0 g t cs) (hu : P.underlying ty = some d) (hd : (match d with | .struct _ | .array _ _ => true | _ => false) = true)
    (hi : (P.info? ty).map (·.size) = some cs.size) (h : Obl P ops w0 q (i + 1) r (a.put o.dst (.agg cs)) K) : Obl P ops w0 q i (o :: r) a K :=
  Obl.val hq (by simp [Region.wanted, hgd]) (fun w hb => by
    unfold execOp
    simp only [ho, hx, Instr.loadAt, Instr.sureAddr, Sem.run_bind, Sem.run_pure, Result.andThen_ok, run_loadVar_row w g t ty cs (0, 0) d (hg.after hb) hu hd hi]) h
theorem Obl.nil {w0 : World} {q : Option Nat} {i : Nat} {K : Act → Prop} (h : K a) : Obl P ops w0 q i [] a K := h
theorem same_calls {f : FuncId} {args : Array Value} {v : Value} (h : Calls P f args w fun e w' => e = .returned v ∧ w = w') : Calls P f args w fun e w' => e = .returned v ∧ Below w.heap.size w w' :=
  h.mono fun _ _ ⟨he, hw⟩ => ⟨he, hw ▸ Below.refl _ _⟩
end
end Go.Proofs
namespace Go.Proofs
open Go.RowKit
section
variable {P : Program} {ops : Array Oper} {n l0 : Nat}

/-- An operation without a fence is one in a round of a loop at the wide fence. -/
theorem Oper.wpIn_of_wp {o : Oper} {a : Act} {w : World} {K : Act → World → Prop} {Q : Exit → Act → World → Prop} (hd : ∀ c, o.op ≠ .defer c) (h : o.wp P a w K (fun _ _ _ => False)) : o.wpIn (Fence.wide.inRound l0) n P a w K Q := by
  refine ⟨fun _ _ => trivial, ?_⟩
  rw [Fence.inRound_round, Oper.semAt_some _ _ _ hd]
  unfold Oper.wp at h
  generalize (execOp a.eval o).run P w = r at h ⊢
  cases r with
  | ok x w' =>
    cases x <;> simp only [Oper.upon, Oper.uponIn] at h ⊢ <;> first | exact h | exact h.elim | skip
    case enter f args =>
      refine ⟨fun hs => (by cases hs), CallsIn.inRound l0 (callsIn_wide.2 (h.mono fun e w'' he => ?_))⟩
      cases e with
      | returned v => exact he
      | panicked c => exact he.elim
      | outgrown => obtain ⟨_, _, h5⟩ := he; exact h5.elim
    case row row args =>
      refine ⟨fun hs => (by cases hs), fun c cs _ => ?_⟩
      obtain ⟨v, w'', r, s⟩ := h c cs
      exact ⟨v, w'', r, by rw [fenced_inRound]; exact stepsIn_wide.2 s⟩
  | halt x w' => cases x <;> simp only [Oper.upon] at h <;> exact h.elim

def noDefer (l : List Oper) : Bool := l.all fun o => match o.op with | .defer _ => false | _ => true
theorem noDefer_spec {l : List Oper} (h : noDefer l = true) {o : Oper} (ho : o ∈ l) : ∀ c, o.op ≠ .defer c := fun c e => by
  have := List.all_eq_true.1 h o ho
  rw [e] at this
  simp at this

/-- What ends as it should, and no other way. -/
abbrev OnlyN (Q : Exit → Act → World → Prop) : Exit → Act → World → Prop := Exit.then (Q .normal) (fun _ _ _ => False)
theorem OnlyN_no {Q : Exit → Act → World → Prop} : ¬ LetsOut (OnlyN Q) := fun ⟨_, _, h⟩ => h

theorem wpListIn_of_wpList {Q : Exit → Act → World → Prop} : ∀ (l : List Oper) (a : Act) (w : World), noDefer l = true → wpList P ops (OnlyN Q) l a w → wpListIn (Fence.wide.inRound l0) n P ops Q l a w
  | [], _, _, _, h => h
  | o :: r, a, w, hd, h => by
    have hd' : noDefer r = true := by simp only [noDefer, List.all_cons, Bool.and_eq_true] at hd; exact hd.2
    simp only [wpList] at h
    simp only [wpListIn]
    split
    · rename_i hw
      rw [if_pos hw] at h
      rcases h with h | ⟨_, h⟩
      · refine Oper.wpIn_of_wp (noDefer_spec hd (by simp)) ?_
        have := Oper.wp_mono (P := P) (Q := OnlyN Q) (fun a w hh => wpListIn_of_wpList r a w hd' hh) h
        unfold Oper.wp at this ⊢
        generalize (execOp a.eval o).run P w = res at this ⊢
        cases res with
        | ok x w' =>
          cases x <;> simp only [Oper.upon] at this ⊢ <;> exact this
        | halt x w' => cases x <;> simp only [Oper.upon] at this ⊢ <;> exact this
      · exact absurd h OnlyN_no
    · rename_i hw
      rw [if_neg hw] at h
      exact ⟨fun _ _ => trivial, wpListIn_of_wpList r _ w hd' h⟩

theorem wpAnyIn_of_wpAny {Q : Exit → Act → World → Prop} (hd : noDefer ops.toList = true) : ∀ (f : Nat) (listed : Array Bool) (a : Act) (w : World), wpAny P .any ops (OnlyN Q) f listed a w → wpAnyIn (Fence.wide.inRound l0) n P .any ops Q f listed a w
  | 0, _, _, _, h => h
  | f + 1, listed, a, w, h => by
    refine ⟨h.1, fun i hi => ?_⟩
    have h2 := h.2 i hi
    unfold wpOp at h2
    unfold wpOpIn
    cases ho : ops[i]? with
    | none =>
      simp only [ho] at h2 ⊢
      exact wpAnyIn_of_wpAny hd f _ _ _ h2
    | some o =>
      simp only [ho] at h2 ⊢
      split
      · rename_i hw
        rw [if_pos hw] at h2
        rcases h2 with h2 | ⟨_, h2⟩
        · refine Oper.wpIn_of_wp (noDefer_spec hd (by rw [Array.mem_toList_iff]; exact Array.mem_of_getElem? ho)) ?_
          have := Oper.wp_mono (P := P) (Q := OnlyN Q) (fun a w hh => wpAnyIn_of_wpAny hd f (listed.setIfInBounds i true) a w hh) h2
          unfold Oper.wp at this ⊢
          generalize (execOp a.eval o).run P w = res at this ⊢
          cases res with
          | ok x w' =>
            cases x <;> simp only [Oper.upon] at this ⊢ <;> exact this
          | halt x w' => cases x <;> simp only [Oper.upon] at this ⊢ <;> exact this
        · exact absurd h2 OnlyN_no
      · rename_i hw
        rw [if_neg hw] at h2
        exact ⟨fun _ _ => trivial, wpAnyIn_of_wpAny hd f _ _ _ h2⟩

variable {l : List Oper} {Q : Exit → Act → World → Prop} {a : Act} {w : World}
/-- A region in a round that does not draw its order. -/
theorem wpIn_list {id : Nat} (hd : noDefer l = true) (h : wpList P l.toArray (OnlyN Q) l a w) : (Code.region id l.toArray false).wpIn (Fence.wide.inRound l0) n P Q a w :=
  wpIn_region_lit (wpListIn_of_wpList l a w hd h)
/-- A region in a round that draws its order. -/
theorem wpIn_free {id : Nat} (m : Nat) (hd : noDefer l = true) (hm : P.follows .mixedOrders = true) (hF : freeB l.toArray m none = true) (hT : tailB l.toArray m = true) (hms : m ≤ l.length)
    (h : ∀ K : Act → Prop, (∀ a', (∀ w', Below w.heap.size w w' → wpList P l.toArray (OnlyN Q) (l.drop m) a' w') → K a') → Obl P l.toArray w none 0 (l.take m) a K) : (Code.region id l.toArray true).wpIn (Fence.wide.inRound l0) n P Q a w :=
  wpIn_region_any hm (wpAnyIn_of_wpAny (by simpa using hd) _ _ _ _ (any_free0 hF hT hms (h _ fun _ h => h)))
end
end Go.Proofs
namespace Go.Proofs
open Go.RowKit
section
variable {P : Program} {ops : Array Oper}

/-- What is known ahead of the value of an operation: the value; or what it is to the world. -/
inductive Spec where
  | v (x : Value)
  | p (x : Value)
  | r (R : Value → World → Prop)
def Spec.fix : Spec → Option Value
  | .v x => some x
  | .p x => some x
  | .r _ => none
def Spec.holds (s : Spec) (x : Value) (w : World) : Prop := match s with | .v y => x = y | .p y => x = y | .r R => R x w
def Spec.stable (s : Spec) : Prop := match s with | .v _ => True | .p _ => True | .r R => ∀ v w w', R v w → Below w.heap.size w w' → R v w'
theorem Spec.holds_fix {s : Spec} {x y : Value} {w : World} (h : s.fix = some x) (hy : s.holds y w) : y = x := by
  cases s <;> simp only [Spec.fix, Option.some.injEq] at h <;> first | (subst h; exact hy) | cases h
theorem Spec.keep {s : Spec} (h : s.stable) {x : Value} {w w' : World} (hx : s.holds x w) (hb : Below w.heap.size w w') : s.holds x w' := by
  cases s with
  | v y => exact hx
  | p y => exact hx
  | r R => exact h x w w' hx hb

def MkS (P : Program) (ops : Array Oper) (s : Spec) (o : Oper) (a : Act) (w : World) : Prop :=
  (Region.wanted o (yielded ops a.tmps) = true ∧ o.wp P a w (fun a' w' => ∃ v, a' = a.put o.dst v ∧ s.holds v w' ∧ Below w.heap.size w w') (fun _ _ _ => False)) ∨
  (Region.wanted o (yielded ops a.tmps) = false ∧ s.holds undef w)

theorem MkS.wpOp {w : World} {i : Nat} {o : Oper} {s : Spec} {a b : Act} (hi : ops[i]? = some o) (hs : a.tmps.size = b.tmps.size)
    (he : execOp b.eval o = execOp a.eval o) (hw : Region.wanted o (yielded ops b.tmps) = Region.wanted o (yielded ops a.tmps)) (h : MkS P ops s o a w)
    {K : Act → World → Prop} {Q : Exit → Act → World → Prop} (hK : ∀ v w', s.holds v w' → Below w.heap.size w w' → K (b.put o.dst v) w') : Go.wpOp P ops Q i K b w := by
  unfold Go.wpOp
  simp only [hi]
  rcases h with ⟨h1, h3⟩ | ⟨h1, h2⟩
  · rw [hw, if_pos h1]
    left
    unfold Oper.wp at h3 ⊢
    rw [he]
    have fin : ∀ u w', (∃ v, a.put o.dst u = a.put o.dst v ∧ s.holds v w' ∧ Below w.heap.size w w') → K (b.put o.dst u) w' := fun u w' ⟨v, e1, e2, e3⟩ => by
      rw [Act.put_same hs e1]; exact hK v w' e2 e3
    generalize (execOp a.eval o).run P w = r at h3 ⊢
    cases r with
    | ok n w' =>
      cases n <;> simp only [Oper.upon] at h3 ⊢ <;> first | exact h3.elim | skip
      case value u => exact fin _ _ h3
      case skip => exact fin _ _ h3
      case enter f args =>
        refine Calls.mono h3 (fun e w'' h4 => ?_)
        cases e with
        | returned u => exact fin _ _ h4
        | panicked c => exact h4.elim
        | outgrown => obtain ⟨_, _, h5⟩ := h4; exact h5.elim
      case defer d =>
        exfalso
        obtain ⟨v, e0, _⟩ := h3
        have := congrArg Act.defers e0
        have e1 : ∀ (x : Act) (d : Option Tmp) (u : Value), (x.put d u).defers = x.defers := by intro x d u; cases d <;> rfl
        rw [e1, e1] at this
        exact absurd (congrArg List.length this) (by simp)
      case row row args =>
        refine Rows.mono h3 (fun u w'' h4 => ?_)
        exact fin _ _ h4
    | halt x w' => cases x <;> simp only [Oper.upon] at h3 <;> exact h3.elim
  · rw [hw, if_neg (by rw [h1]; decide)]
    exact hK _ _ h2 (Below.refl _ _)

theorem free_anyS {m : Nat} (hF : freeB ops m none = true) (hT : tailB ops m = true) {Q : Exit → Act → World → Prop} {a : Act} {w0 : World} (sp : Nat → Spec) (hst : ∀ i, i < m → (sp i).stable)
    (hN : ∀ i o, i < m → ops[i]? = some o → ∀ vs w, (∀ j x, (sp j).fix = some x → vs j = x) → Below w0.heap.size w0 w → (∀ j, j < i → waits o j = true → (sp j).holds (vs j) w) → MkS P ops (sp i) o (canon ops vs (fun j => decide (j < i)) a m) w)
    (hK : ∀ vs w, (∀ j x, (sp j).fix = some x → vs j = x) → Below w0.heap.size w0 w → (∀ j, j < m → (sp j).holds (vs j) w) → wpList P ops Q (ops.toList.drop m) (canon ops vs (fun _ => true) a m) w) (hms : m ≤ ops.size) :
    ∀ (f : Nat) (listed : Array Bool) (vs : Nat → Value) (w : World), HeadInv .any ops m listed → (List.range m).countP (fun j => !selOf listed j) + (ops.size - m) ≤ f → (∀ j x, (sp j).fix = some x → vs j = x) →
      Below w0.heap.size w0 w → (∀ j, j < m → selOf listed j = true → (sp j).holds (vs j) w) → wpAny P .any ops Q f listed (canon ops vs (selOf listed) a m) w := by
  intro f
  induction f with
  | zero =>
    intro listed vs w inv hf hfx hB hq
    have hall : ∀ j, j < m → selOf listed j = true := fun j hj => by
      have h0 : (List.range m).countP (fun j => !selOf listed j) = 0 := by omega
      have := List.countP_eq_zero.1 h0 j (List.mem_range.2 hj)
      simpa using this
    rw [canon_congr (vs' := vs) (sel' := fun _ => true) m (fun j hj => ⟨hall j hj, fun _ => rfl⟩)]
    exact tail_any hF hT 0 m listed _ w (Nat.le_refl _) hms (by omega) ⟨inv.size, hall, inv.tail⟩ (hK vs w hfx hB (fun j hj => hq j hj (hall j hj)))
  | succ f ih =>
    intro listed vs w inv hf hfx hB hq
    by_cases hall : ∀ j, j < m → selOf listed j = true
    · rw [canon_congr (vs' := vs) (sel' := fun _ => true) m (fun j hj => ⟨hall j hj, fun _ => rfl⟩)]
      exact tail_any hF hT (f + 1) m listed _ w (Nat.le_refl _) hms (by omega) ⟨inv.size, hall, inv.tail⟩ (hK vs w hfx hB (fun j hj => hq j hj (hall j hj)))
    · have hex : ∃ j, j < m ∧ selOf listed j = false ∧ ∀ k, k < j → selOf listed k = true := by
        have h1 : ∃ j, j < m ∧ selOf listed j = false := by
          refine Classical.byContradiction fun hno => hall fun j hj => ?_
          cases hs : selOf listed j with
          | true => rfl
          | false => exact absurd ⟨j, hj, hs⟩ hno
        obtain ⟨j, hj⟩ := h1
        induction j using Nat.strongRecOn with
        | _ j ihj =>
          by_cases hk : ∀ k, k < j → selOf listed k = true
          · exact ⟨j, hj.1, hj.2, hk⟩
          · have : ∃ k, k < j ∧ selOf listed k = false := by
              refine Classical.byContradiction fun hno => hk fun k hk' => ?_
              cases hs : selOf listed k with
              | true => rfl
              | false => exact absurd ⟨k, hk', hs⟩ hno
            obtain ⟨k, hk1, hk2⟩ := this
            exact ihj k hk1 ⟨by omega, hk2⟩
      obtain ⟨j, hjm, hju, hjb⟩ := hex
      obtain ⟨oj, hoj⟩ : ∃ oj, ops[j]? = some oj := ⟨_, Array.getElem?_eq_getElem (by omega)⟩
      have hjr : j ∈ Region.ready .any ops listed := mem_ready.2 ⟨hju, oj, hoj, fun e he hb => by
        have h1 := (freeB_spec hF hoj).back e he hb
        have h2 := hjb e.on h1
        have h3 : e.on < listed.size := by rw [inv.size]; omega
        unfold selOf at h2
        simp [h3] at h2 ⊢; exact h2⟩
      refine ⟨fun h0 => absurd hjr (by rw [h0]; exact List.not_mem_nil), fun i hi => ?_⟩
      obtain ⟨hu, o, ho, hafter⟩ := mem_ready.1 hi
      have hisz : i < ops.size := (Array.getElem?_eq_some_iff.1 ho).1
      have him : i < m := by
        unfold tailB at hT
        simp only [Bool.or_eq_true, decide_eq_true_eq, Bool.and_eq_true] at hT
        rcases hT with hT | ⟨⟨hlt, hs⟩, hc⟩
        · omega
        · exact Nat.lt_of_not_le fun hge => tail_waits hs hc hlt inv _ j rfl hjm hju i hge hi
      have hF' := freeB_spec hF ho
      have hdst : dstOf ops i = o.dst := by simp [dstOf, ho]
      have hdis : ∀ k, k < m → k ≠ i → ∀ d, dstOf ops k = some d → dstOf ops i ≠ some d := fun k hk hne d hd => by
        rw [hdst]; exact (hF'.apart him k hk hne d hd).1
      have hsel' : selOf (listed.setIfInBounds i true) = fun k => selOf listed k || k == i := by
        funext k
        unfold selOf
        by_cases hki : k = i
        · subst hki
          have : k < listed.size := by rw [inv.size]; exact hisz
          simp [this]
        · rw [getD_set_ne true (Ne.symm hki)]
          simp [hki]
      have hcount : (List.range m).countP (fun k => !selOf (listed.setIfInBounds i true) k) < (List.range m).countP (fun k => !selOf listed k) := by
        refine countP_lt (x := i) (List.mem_range.2 him) (fun y hy => ?_) (by simp [selOf, hu]) (by rw [hsel']; simp)
        rw [hsel'] at hy
        simp at hy
        simp [hy.1]
      have hsz : ∀ vs' sel', (canon ops vs' sel' a m).tmps.size = a.tmps.size := fun vs' sel' => (canon_size m).1
      have hev := looks_eval (vs := vs) (vs' := vs) (a := a) hF ho him inv hms hi (fun k _ => rfl)
      have hsame : (fun j => decide (j < i) && (none : Option Nat) != some j) = fun j => decide (j < i) := by funext j; simp
      rw [hsame] at hev
      obtain ⟨he, hw⟩ := getLooks (ops := ops) (o := o) hF'.sel (by rw [hsz, hsz]) hev
      refine (hN i o him ho vs w hfx hB (fun j hj hwt => ?_)).wpOp ho (by rw [hsz, hsz]) he hw (fun v w' hv hb => ?_)
      · obtain ⟨e, he', hb', hon⟩ := waits_spec hwt
        have h5 := hafter e he' hb'
        rw [hon] at h5
        have hjs : j < listed.size := by rw [inv.size]; omega
        refine hq j (by omega) ?_
        unfold selOf
        simp [hjs] at h5 ⊢; exact h5
      · have e1 : canon ops vs (selOf listed) a m = canon ops (fun k => if k = i then v else vs k) (selOf listed) a m :=
          canon_congr m (fun k hk => ⟨rfl, fun hs => by
            have : k ≠ i := fun h' => by subst h'; unfold selOf at hs; rw [hu] at hs; cases hs
            simp [this]⟩)
        have e2 : (canon ops vs (selOf listed) a m).put o.dst v = canon ops (fun k => if k = i then v else vs k) (selOf (listed.setIfInBounds i true)) a m := by
          rw [hsel', canon_put hu m him hdis, e1, hdst]
          simp
        rw [e2]
        refine ih _ _ w' (inv.set hi him) (by omega) (fun k x hk => ?_) (hB.trans (hb.mono hB.size)) (fun k hk hs => ?_)
        · by_cases hki : k = i
          · subst hki; simp only [if_true]; exact Spec.holds_fix hk hv
          · simp only [if_neg hki]; exact hfx k x hk
        · by_cases hki : k = i
          · subst hki; simp only [if_true]; exact hv
          · simp only [if_neg hki]
            have hk2 : selOf listed k = true := by
              rw [hsel'] at hs
              simpa [hki] using hs
            exact Spec.keep (hst k hk) (hq k hk hk2) hb

abbrev Hyps := List (Nat × (World → Prop))
/-- In the order of the text: what each operation leaves. -/
def OblS (P : Program) (ops : Array Oper) (w0 : World) : Nat → List Spec → List Oper → Act → Hyps → (Act → Hyps → Prop) → Prop
  | _, [], [], a, H, K => K a H
  | i, .v x :: S, o :: r, a, H, K => (∀ w, Below w0.heap.size w0 w → (∀ p ∈ H, waits o p.1 = true → p.2 w) → MkS P ops (.v x) o a w) ∧ OblS P ops w0 (i + 1) S r (a.put o.dst x) H K
  | i, .p x :: S, o :: r, a, H, K => (Region.wanted o (yielded ops a.tmps) = true ∧ ∀ w, (execOp a.eval o).run P w = .ok (.value x) w) ∧ OblS P ops w0 (i + 1) S r (a.put o.dst x) H K
  | i, .r R :: S, o :: r, a, H, K => (Spec.r R).stable ∧ (∀ w, Below w0.heap.size w0 w → (∀ p ∈ H, waits o p.1 = true → p.2 w) → MkS P ops (.r R) o a w) ∧ ∀ v, OblS P ops w0 (i + 1) S r (a.put o.dst v) ((i, R v) :: H) K
  | _, _, _, _, _, _ => False

theorem OblS.all {w0 : World} {a0 : Act} {K : Act → Hyps → Prop} (sp : Nat → Spec) (vs : Nat → Value) (hfx : ∀ j x, (sp j).fix = some x → vs j = x) : ∀ (S : List Spec) (l : List Oper) (i : Nat) (H : Hyps), (∀ j s, S[j]? = some s → sp (i + j) = s) → (∀ j o, l[j]? = some o → ops[i + j]? = some o) →
    (∀ p ∈ H, ∃ j R, p = (j, R (vs j)) ∧ j < i ∧ sp j = .r R) → OblS P ops w0 i S l (canon ops vs (fun _ => true) a0 i) H K →
    (∀ j o, i ≤ j → j < i + l.length → ops[j]? = some o → (sp j).stable ∧ ∀ w, Below w0.heap.size w0 w → (∀ k, k < j → waits o k = true → (sp k).holds (vs k) w) → MkS P ops (sp j) o (canon ops vs (fun _ => true) a0 j) w) ∧
    (∀ j o x, i ≤ j → j < i + l.length → ops[j]? = some o → sp j = .p x → Region.wanted o (yielded ops (canon ops vs (fun _ => true) a0 j).tmps) = true ∧ ∀ w, (execOp (canon ops vs (fun _ => true) a0 j).eval o).run P w = .ok (.value x) w) ∧
    ∃ H', (∀ p ∈ H', ∃ j R, p = (j, R (vs j)) ∧ j < i + l.length ∧ sp j = .r R) ∧ K (canon ops vs (fun _ => true) a0 (i + l.length)) H'
  | [], [], i, H, _, _, hH, h => ⟨fun j o h1 h2 => by simp at h2; omega, fun j o x h1 h2 => by simp at h2; omega, H, by simpa using hH, h⟩
  | [], _ :: _, _, _, _, _, _, h => h.elim
  | .v _ :: _, [], _, _, _, _, _, h => h.elim
  | .p _ :: _, [], _, _, _, _, _, h => h.elim
  | .r _ :: _, [], _, _, _, _, _, h => h.elim
  | .v x :: S, o :: r, i, H, hS, hl, hH, h => by
    obtain ⟨h1, h2⟩ := h
    have hi : ops[i]? = some o := by simpa using hl 0 o rfl
    have hd : dstOf ops i = o.dst := by simp [dstOf, hi]
    have hsp : sp i = .v x := by simpa using hS 0 _ rfl
    have e : canon ops vs (fun _ => true) a0 (i + 1) = (canon ops vs (fun _ => true) a0 i).put o.dst x := by simp [canon, hd, hfx i x (by rw [hsp]; rfl)]
    rw [← e] at h2
    obtain ⟨k1, kp, H', k2, k3⟩ := OblS.all sp vs hfx S r (i + 1) H (fun j s hj => by have := hS (j + 1) s (by simpa using hj); rw [show i + 1 + j = i + (j + 1) by omega]; exact this)
      (fun j o' hj => by have := hl (j + 1) o' (by simpa using hj); rw [show i + 1 + j = i + (j + 1) by omega]; exact this) (fun p hp => by obtain ⟨j, R, e1, e2, e3⟩ := hH p hp; exact ⟨j, R, e1, by omega, e3⟩) h2
    refine ⟨fun j o' hj1 hj2 ho' => ?_, fun j o' x' hj1 hj2 ho' hx' => ?_, H', fun p hp => ?_, ?_⟩
    · by_cases hji : j = i
      · subst hji
        have : o' = o := Option.some.inj (ho'.symm.trans hi)
        subst this
        refine ⟨by rw [hsp]; trivial, fun w hB hw => ?_⟩
        rw [hsp]
        refine h1 w hB (fun p hp hwt => ?_)
        obtain ⟨q, R, rfl, e2, e3⟩ := hH p hp
        have := hw q e2 hwt
        rw [e3] at this; exact this
      · exact k1 j o' (by omega) (by simp at hj2; omega) ho'
    · by_cases hji : j = i
      · subst hji; rw [hsp] at hx'; cases hx'
      · exact kp j o' x' (by omega) (by simp at hj2; omega) ho' hx'
    · obtain ⟨j, R, e1, e2, e3⟩ := k2 p hp
      exact ⟨j, R, e1, by simp; omega, e3⟩
    · rw [show i + (o :: r).length = i + 1 + r.length by simp; omega]; exact k3
  | .p x :: S, o :: r, i, H, hS, hl, hH, h => by
    obtain ⟨h1, h2⟩ := h
    have hi : ops[i]? = some o := by simpa using hl 0 o rfl
    have hd : dstOf ops i = o.dst := by simp [dstOf, hi]
    have hsp : sp i = .p x := by simpa using hS 0 _ rfl
    have e : canon ops vs (fun _ => true) a0 (i + 1) = (canon ops vs (fun _ => true) a0 i).put o.dst x := by simp [canon, hd, hfx i x (by rw [hsp]; rfl)]
    rw [← e] at h2
    obtain ⟨k1, kp, H', k2, k3⟩ := OblS.all sp vs hfx S r (i + 1) H (fun j s hj => by have := hS (j + 1) s (by simpa using hj); rw [show i + 1 + j = i + (j + 1) by omega]; exact this)
      (fun j o' hj => by have := hl (j + 1) o' (by simpa using hj); rw [show i + 1 + j = i + (j + 1) by omega]; exact this) (fun p hp => by obtain ⟨j, R, e1, e2, e3⟩ := hH p hp; exact ⟨j, R, e1, by omega, e3⟩) h2
    refine ⟨fun j o' hj1 hj2 ho' => ?_, fun j o' x' hj1 hj2 ho' hx' => ?_, H', fun p hp => ?_, ?_⟩
    · by_cases hji : j = i
      · subst hji
        have : o' = o := Option.some.inj (ho'.symm.trans hi)
        subst this
        refine ⟨by rw [hsp]; trivial, fun w hB hw => ?_⟩
        rw [hsp]
        exact .inl ⟨h1.1, by unfold Oper.wp; rw [h1.2 w]; exact ⟨x, rfl, rfl, Below.refl _ _⟩⟩
      · exact k1 j o' (by omega) (by simp at hj2; omega) ho'
    · by_cases hji : j = i
      · subst hji
        have : o' = o := Option.some.inj (ho'.symm.trans hi)
        subst this
        rw [hsp] at hx'; cases hx'
        exact h1
      · exact kp j o' x' (by omega) (by simp at hj2; omega) ho' hx'
    · obtain ⟨j, R, e1, e2, e3⟩ := k2 p hp
      exact ⟨j, R, e1, by simp; omega, e3⟩
    · rw [show i + (o :: r).length = i + 1 + r.length by simp; omega]; exact k3
  | .r R0 :: S, o :: r, i, H, hS, hl, hH, h => by
    obtain ⟨h0, h1, h2'⟩ := h
    have h2 := h2' (vs i)
    have hi : ops[i]? = some o := by simpa using hl 0 o rfl
    have hd : dstOf ops i = o.dst := by simp [dstOf, hi]
    have hsp : sp i = .r R0 := by simpa using hS 0 _ rfl
    have e : canon ops vs (fun _ => true) a0 (i + 1) = (canon ops vs (fun _ => true) a0 i).put o.dst (vs i) := by simp [canon, hd]
    rw [← e] at h2
    obtain ⟨k1, kp, H', k2, k3⟩ := OblS.all sp vs hfx S r (i + 1) ((i, R0 (vs i)) :: H) (fun j s hj => by have := hS (j + 1) s (by simpa using hj); rw [show i + 1 + j = i + (j + 1) by omega]; exact this)
      (fun j o' hj => by have := hl (j + 1) o' (by simpa using hj); rw [show i + 1 + j = i + (j + 1) by omega]; exact this) (fun p hp => by
        rcases List.mem_cons.1 hp with rfl | hp
        · exact ⟨i, R0, rfl, by omega, hsp⟩
        · obtain ⟨j, R, e1, e2, e3⟩ := hH p hp; exact ⟨j, R, e1, by omega, e3⟩) h2
    refine ⟨fun j o' hj1 hj2 ho' => ?_, fun j o' x' hj1 hj2 ho' hx' => ?_, H', fun p hp => ?_, ?_⟩
    · by_cases hji : j = i
      · subst hji
        have : o' = o := Option.some.inj (ho'.symm.trans hi)
        subst this
        refine ⟨by rw [hsp]; exact h0, fun w hB hw => ?_⟩
        rw [hsp]
        refine h1 w hB (fun p hp hwt => ?_)
        obtain ⟨q, R, rfl, e2, e3⟩ := hH p hp
        have := hw q e2 hwt
        rw [e3] at this; exact this
      · exact k1 j o' (by omega) (by simp at hj2; omega) ho'
    · by_cases hji : j = i
      · subst hji; rw [hsp] at hx'; cases hx'
      · exact kp j o' x' (by omega) (by simp at hj2; omega) ho' hx'
    · obtain ⟨j, R, e1, e2, e3⟩ := k2 p hp
      exact ⟨j, R, e1, by simp; omega, e3⟩
    · rw [show i + (o :: r).length = i + 1 + r.length by simp; omega]; exact k3
end
end Go.Proofs
namespace Go.Proofs
open Go.RowKit
section
variable {P : Program} {l : List Oper} {Q : Exit → Act → World → Prop} {a : Act} {w : World}

theorem any_loose {m : Nat} (S : List Spec) (hF : freeB l.toArray m none = true) (hT : tailB l.toArray m = true) (hms : m ≤ l.length) (hSm : S.length = m)
    (h : OblS P l.toArray w 0 S (l.take m) a [] (fun a' H => ∀ w', Below w.heap.size w w' → (∀ p ∈ H, p.2 w') → wpList P l.toArray Q (l.drop m) a' w')) :
    wpAny P .any l.toArray Q l.toArray.size (Array.replicate l.toArray.size false) a { w with drawn := w.drawn + 1 } := by
  obtain ⟨sp, hsp⟩ : ∃ sp : Nat → Spec, sp = fun j => S.getD j (.v undef) := ⟨_, rfl⟩
  obtain ⟨vs0, hvs0⟩ : ∃ vs0 : Nat → Value, vs0 = fun j => ((sp j).fix).getD undef := ⟨_, rfl⟩
  have hfx0 : ∀ j x, (sp j).fix = some x → vs0 j = x := fun j x hj => by rw [hvs0]; simp only [hj, Option.getD_some]
  have key := fun (vs : Nat → Value) (hfx : ∀ j x, (sp j).fix = some x → vs j = x) => OblS.all (P := P) (ops := l.toArray) (a0 := a) sp vs hfx S (l.take m) 0 [] (fun j s hj => by rw [hsp]; simp [hj])
    (fun j o hj => by
      have hjm : j < m := by have := (List.getElem?_eq_some_iff.1 hj).1; simp at this; omega
      simp only [List.getElem?_take, hjm, if_true] at hj
      simpa using hj) (fun p hp => absurd hp List.not_mem_nil) h
  have hlen : (l.take m).length = m := by simp; omega
  have hcut := fun (vs : Nat → Value) i (hi : i ≤ m) => canon_cut (ops := l.toArray) (vs := vs) (s := fun _ => true) (a := a) m hi
  have e0 : a = canon l.toArray vs0 (selOf (Array.replicate l.toArray.size false)) a m := by
    have e1 : canon l.toArray vs0 (selOf (Array.replicate l.toArray.size false)) a m = canon l.toArray vs0 (fun j => decide (j < 0) && true) a m :=
      canon_congr m (fun j hj => ⟨by simp [selOf, show j < l.length by omega], fun _ => rfl⟩)
    rw [e1, hcut vs0 0 (by omega)]; rfl
  have := free_anyS (P := P) (ops := l.toArray) (m := m) hF hT (Q := Q) (a := a) (w0 := w) sp
    (fun i hi => by
      have ho : ∃ o, l.toArray[i]? = some o := ⟨_, Array.getElem?_eq_getElem (by simp; omega)⟩
      obtain ⟨o, ho⟩ := ho
      exact ((key vs0 hfx0).1 i o (by omega) (by rw [hlen]; omega) ho).1)
    (fun i o hi ho vs w' hfx hB hw => by
      have := ((key vs hfx).1 i o (by omega) (by rw [hlen]; omega) ho).2 w' hB hw
      rw [← hcut vs i (by omega)] at this
      simpa using this)
    (fun vs w' hfx hB hw => by
      obtain ⟨H', k2, k3⟩ := (key vs hfx).2.2
      rw [hlen, Nat.zero_add] at k3
      simpa using k3 w' hB (fun p hp => by
        obtain ⟨j, R, rfl, e2, e3⟩ := k2 p hp
        have := hw j (by rw [hlen] at e2; omega)
        rw [e3] at this; exact this)) (by simpa using hms)
    l.toArray.size (Array.replicate l.toArray.size false) vs0 { w with drawn := w.drawn + 1 } (head0 m)
    (by have := count_le (p := fun j => !selOf (Array.replicate l.toArray.size false) j) m; simp only [List.size_toArray] at *; omega) hfx0 (Below.refl _ w).drew
    (fun j hj hs => by simp [selOf, show j < l.length by omega] at hs)
  rw [← e0] at this
  exact this

/-- The operations before number m in whatever order, each leaving what its word says; the rest behind them. -/
theorem wp_loose {id : Nat} (m : Nat) (S : List Spec) (hm : P.follows .mixedOrders = true) (hF : freeB l.toArray m none = true) (hT : tailB l.toArray m = true) (hms : m ≤ l.length) (hSm : S.length = m)
    (h : ∀ K : Act → Hyps → Prop, (∀ a' H, (∀ w', Below w.heap.size w w' → (∀ p ∈ H, p.2 w') → wpList P l.toArray Q (l.drop m) a' w') → K a' H) → OblS P l.toArray w 0 S (l.take m) a [] K) : (Code.region id l.toArray true).wp P Q a w :=
  wp_region_any hm (any_loose S hF hT hms hSm (h _ fun _ _ h => h))

variable {ops : Array Oper} {w0 : World} {i : Nat} {o : Oper} {r : List Oper} {S : List Spec} {H : Hyps} {K : Act → Hyps → Prop}
theorem OblS.val {v : Value} (hg : Region.wanted o (yielded ops a.tmps) = true)
    (hr : ∀ w, Below w0.heap.size w0 w → (∀ p ∈ H, waits o p.1 = true → p.2 w) → (execOp a.eval o).run P w = .ok (.value v) w) (h : OblS P ops w0 (i + 1) S r (a.put o.dst v) H K) : OblS P ops w0 i (.v v :: S) (o :: r) a H K :=
  ⟨fun w hB hH => .inl ⟨hg, by unfold Oper.wp; rw [hr w hB hH]; exact ⟨v, rfl, rfl, Below.refl _ _⟩⟩, h⟩
theorem OblS.skip (hg : Region.wanted o (yielded ops a.tmps) = false) (h : OblS P ops w0 (i + 1) S r (a.put o.dst undef) H K) : OblS P ops w0 i (.v undef :: S) (o :: r) a H K :=
  ⟨fun _ _ _ => .inr ⟨hg, rfl⟩, h⟩
theorem OblS.call {v : Value} (f : FuncId) (hg : Region.wanted o (yielded ops a.tmps) = true)
    (hr : ∀ w, Below w0.heap.size w0 w → (∀ p ∈ H, waits o p.1 = true → p.2 w) → ∃ args, (execOp a.eval o).run P w = .ok (.enter f args) w ∧ Calls P f args w fun e w' => e = .returned v ∧ Below w.heap.size w w')
    (h : OblS P ops w0 (i + 1) S r (a.put o.dst v) H K) : OblS P ops w0 i (.v v :: S) (o :: r) a H K :=
  ⟨fun w hB hH => .inl ⟨hg, by
    obtain ⟨args, h1, h2⟩ := hr w hB hH
    unfold Oper.wp; rw [h1]
    exact h2.mono fun e w' ⟨he, hb'⟩ => by subst he; exact ⟨v, rfl, rfl, hb'⟩⟩, h⟩
/-- A call whose result is loose. -/
theorem OblS.callR {R : Value → World → Prop} (f : FuncId) (hst : ∀ v w w', R v w → Below w.heap.size w w' → R v w') (hg : Region.wanted o (yielded ops a.tmps) = true)
    (hr : ∀ w, Below w0.heap.size w0 w → (∀ p ∈ H, waits o p.1 = true → p.2 w) → ∃ args, (execOp a.eval o).run P w = .ok (.enter f args) w ∧ Calls P f args w fun e w' => ∃ v, e = .returned v ∧ R v w' ∧ Below w.heap.size w w')
    (h : ∀ v, OblS P ops w0 (i + 1) S r (a.put o.dst v) ((i, R v) :: H) K) : OblS P ops w0 i (.r R :: S) (o :: r) a H K :=
  ⟨hst, fun w hB hH => .inl ⟨hg, by
    obtain ⟨args, h1, h2⟩ := hr w hB hH
    unfold Oper.wp; rw [h1]
    exact h2.mono fun e w' ⟨v, he, hR, hb'⟩ => by subst he; exact ⟨v, rfl, hR, hb'⟩⟩, h⟩
/-- One that makes something. -/
theorem OblS.run {R : Value → World → Prop} (hst : ∀ v w w', R v w → Below w.heap.size w w' → R v w') (hg : Region.wanted o (yielded ops a.tmps) = true)
    (hr : ∀ w, Below w0.heap.size w0 w → (∀ p ∈ H, waits o p.1 = true → p.2 w) → ∃ v w', (execOp a.eval o).run P w = .ok (.value v) w' ∧ R v w' ∧ Below w.heap.size w w')
    (h : ∀ v, OblS P ops w0 (i + 1) S r (a.put o.dst v) ((i, R v) :: H) K) : OblS P ops w0 i (.r R :: S) (o :: r) a H K :=
  ⟨hst, fun w hB hH => .inl ⟨hg, by
    obtain ⟨v, w', h1, h2, h3⟩ := hr w hB hH
    unfold Oper.wp; rw [h1]
    exact ⟨v, rfl, h2, h3⟩⟩, h⟩
theorem OblS.nil (h : K a H) : OblS P ops w0 i [] [] a H K := h
theorem OblS.row (hgd : o.guard = none) (ty : TypeId) (x : Operand) (ho : o.op = .load ty x) (g : Nat) (hx : a.eval x = .pointer (some ⟨g, 0, none⟩)) (t : TypeId) (cs : Array Value) (d : TypeDesc)
    (hh : Has w0 g t cs) (hu : P.underlying ty = some d) (hd : (match d with | .struct _ | .array _ _ => true | _ => false) = true) (hi : (P.info? ty).map (·.size) = some cs.size)
    (h : OblS P ops w0 (i + 1) S r (a.put o.dst (.agg cs)) H K) : OblS P ops w0 i (.v (.agg cs) :: S) (o :: r) a H K := by
  refine ⟨fun w hB hH => .inl ⟨by simp [Region.wanted, hgd], ?_⟩, h⟩
  have hl := run_loadVar_row w g t ty cs (0, 0) d (hh.after hB) hu hd hi
  have hq : (execOp a.eval o).run P w = .ok (.value (.agg cs)) w := by
    unfold execOp
    simp only [ho, hx, Instr.loadAt, Instr.sureAddr, Sem.run_bind, Sem.run_pure, Result.andThen_ok, hl]
  unfold Oper.wp
  rw [hq]
  exact ⟨_, rfl, rfl, Below.refl _ _⟩

/-- What 'alloc' leaves. -/
def NewR (w0 : World) (t : TypeId) (z : Array Value) : Value → World → Prop := fun v w => ∃ B, v = .pointer (some ⟨B, 0, none⟩) ∧ w0.heap.size ≤ B ∧ Has w B t z
theorem NewR.stable {w0 : World} {t : TypeId} {z : Array Value} (v : Value) (w w' : World) (h : NewR w0 t z v w) (hb : Below w.heap.size w w') : NewR w0 t z v w' := by
  obtain ⟨B, h1, h2, h3⟩ := h
  exact ⟨B, h1, h2, h3.after hb⟩
theorem OblS.makes {t : TypeId} {z : Array Value} (hA : Makes P o t z) (h : ∀ v, OblS P ops w0 (i + 1) S r (a.put o.dst v) ((i, NewR w0 t z v) :: H) K) : OblS P ops w0 i (.r (NewR w0 t z) :: S) (o :: r) a H K :=
  OblS.run NewR.stable (by simp [Region.wanted, hA.guard]) (fun w hB _ => ⟨_, _, hA.run a w, ⟨_, rfl, hB.size, Has.new w t z⟩, newB (Below.refl _ _) _⟩) h
end
end Go.Proofs
namespace Go.Proofs
open Go.RowKit
section
variable {P : Program} {ops : Array Oper}

theorem free_anyD {m : Nat} (D : List Nat) (hF : freeB ops m none = true) (hT : tailB ops m = true) {Q : Exit → Act → World → Prop} {a : Act} {w0 : World} (sp : Nat → Spec) (hst : ∀ i, i < m → (sp i).stable)
    (hN : ∀ i o, i < m → ops[i]? = some o → ∀ vs w, (∀ j x, (sp j).fix = some x → vs j = x) → Below w0.heap.size w0 w → (∀ j, j < i → waits o j = true → (sp j).holds (vs j) w) → MkS P ops (sp i) o (canon ops vs (fun j => decide (j < i)) a m) w)
    (hD : ∀ i ∈ D, i < m ∧ ∃ o t z, ops[i]? = some o ∧ Makes P o t z ∧ sp i = .r (NewR w0 t z))
    (hK : ∀ vs w, (∀ j x, (sp j).fix = some x → vs j = x) → Below w0.heap.size w0 w → (∀ j, j < m → (sp j).holds (vs j) w) → (∀ i ∈ D, ∀ j ∈ D, i ≠ j → vs i ≠ vs j) → wpList P ops Q (ops.toList.drop m) (canon ops vs (fun _ => true) a m) w) (hms : m ≤ ops.size) :
    ∀ (f : Nat) (listed : Array Bool) (vs : Nat → Value) (w : World), HeadInv .any ops m listed → (List.range m).countP (fun j => !selOf listed j) + (ops.size - m) ≤ f → (∀ j x, (sp j).fix = some x → vs j = x) →
      Below w0.heap.size w0 w → (∀ j, j < m → selOf listed j = true → (sp j).holds (vs j) w) → (∀ i ∈ D, ∀ j ∈ D, i ≠ j → selOf listed i = true → selOf listed j = true → vs i ≠ vs j) → wpAny P .any ops Q f listed (canon ops vs (selOf listed) a m) w := by
  intro f
  induction f with
  | zero =>
    intro listed vs w inv hf hfx hB hq hdd
    have hall : ∀ j, j < m → selOf listed j = true := fun j hj => by
      have h0 : (List.range m).countP (fun j => !selOf listed j) = 0 := by omega
      have := List.countP_eq_zero.1 h0 j (List.mem_range.2 hj)
      simpa using this
    rw [canon_congr (vs' := vs) (sel' := fun _ => true) m (fun j hj => ⟨hall j hj, fun _ => rfl⟩)]
    exact tail_any hF hT 0 m listed _ w (Nat.le_refl _) hms (by omega) ⟨inv.size, hall, inv.tail⟩ (hK vs w hfx hB (fun j hj => hq j hj (hall j hj)) (fun i hi j hj hne => hdd i hi j hj hne (hall i (hD i hi).1) (hall j (hD j hj).1)))
  | succ f ih =>
    intro listed vs w inv hf hfx hB hq hdd
    by_cases hall : ∀ j, j < m → selOf listed j = true
    · rw [canon_congr (vs' := vs) (sel' := fun _ => true) m (fun j hj => ⟨hall j hj, fun _ => rfl⟩)]
      exact tail_any hF hT (f + 1) m listed _ w (Nat.le_refl _) hms (by omega) ⟨inv.size, hall, inv.tail⟩ (hK vs w hfx hB (fun j hj => hq j hj (hall j hj)) (fun i hi j hj hne => hdd i hi j hj hne (hall i (hD i hi).1) (hall j (hD j hj).1)))
    · have hex : ∃ j, j < m ∧ selOf listed j = false ∧ ∀ k, k < j → selOf listed k = true := by
        have h1 : ∃ j, j < m ∧ selOf listed j = false := by
          refine Classical.byContradiction fun hno => hall fun j hj => ?_
          cases hs : selOf listed j with
          | true => rfl
          | false => exact absurd ⟨j, hj, hs⟩ hno
        obtain ⟨j, hj⟩ := h1
        induction j using Nat.strongRecOn with
        | _ j ihj =>
          by_cases hk : ∀ k, k < j → selOf listed k = true
          · exact ⟨j, hj.1, hj.2, hk⟩
          · have : ∃ k, k < j ∧ selOf listed k = false := by
              refine Classical.byContradiction fun hno => hk fun k hk' => ?_
              cases hs : selOf listed k with
              | true => rfl
              | false => exact absurd ⟨k, hk', hs⟩ hno
            obtain ⟨k, hk1, hk2⟩ := this
            exact ihj k hk1 ⟨by omega, hk2⟩
      obtain ⟨j, hjm, hju, hjb⟩ := hex
      obtain ⟨oj, hoj⟩ : ∃ oj, ops[j]? = some oj := ⟨_, Array.getElem?_eq_getElem (by omega)⟩
      have hjr : j ∈ Region.ready .any ops listed := mem_ready.2 ⟨hju, oj, hoj, fun e he hb => by
        have h1 := (freeB_spec hF hoj).back e he hb
        have h2 := hjb e.on h1
        have h3 : e.on < listed.size := by rw [inv.size]; omega
        unfold selOf at h2
        simp [h3] at h2 ⊢; exact h2⟩
      refine ⟨fun h0 => absurd hjr (by rw [h0]; exact List.not_mem_nil), fun i hi => ?_⟩
      obtain ⟨hu, o, ho, hafter⟩ := mem_ready.1 hi
      have hisz : i < ops.size := (Array.getElem?_eq_some_iff.1 ho).1
      have him : i < m := by
        unfold tailB at hT
        simp only [Bool.or_eq_true, decide_eq_true_eq, Bool.and_eq_true] at hT
        rcases hT with hT | ⟨⟨hlt, hs⟩, hc⟩
        · omega
        · exact Nat.lt_of_not_le fun hge => tail_waits hs hc hlt inv _ j rfl hjm hju i hge hi
      have hF' := freeB_spec hF ho
      have hdst : dstOf ops i = o.dst := by simp [dstOf, ho]
      have hdis : ∀ k, k < m → k ≠ i → ∀ d, dstOf ops k = some d → dstOf ops i ≠ some d := fun k hk hne d hd => by
        rw [hdst]; exact (hF'.apart him k hk hne d hd).1
      have hsel' : selOf (listed.setIfInBounds i true) = fun k => selOf listed k || k == i := by
        funext k
        unfold selOf
        by_cases hki : k = i
        · subst hki
          have : k < listed.size := by rw [inv.size]; exact hisz
          simp [this]
        · rw [getD_set_ne true (Ne.symm hki)]
          simp [hki]
      have hcount : (List.range m).countP (fun k => !selOf (listed.setIfInBounds i true) k) < (List.range m).countP (fun k => !selOf listed k) := by
        refine countP_lt (x := i) (List.mem_range.2 him) (fun y hy => ?_) (by simp [selOf, hu]) (by rw [hsel']; simp)
        rw [hsel'] at hy
        simp at hy
        simp [hy.1]
      have hsz : ∀ vs' sel', (canon ops vs' sel' a m).tmps.size = a.tmps.size := fun vs' sel' => (canon_size m).1
      have hev := looks_eval (vs := vs) (vs' := vs) (a := a) hF ho him inv hms hi (fun k _ => rfl)
      have hsame : (fun j => decide (j < i) && (none : Option Nat) != some j) = fun j => decide (j < i) := by funext j; simp
      rw [hsame] at hev
      obtain ⟨he, hw⟩ := getLooks (ops := ops) (o := o) hF'.sel (by rw [hsz, hsz]) hev
      have hM0 : MkS P ops (sp i) o (canon ops vs (fun j => decide (j < i)) a m) w := hN i o him ho vs w hfx hB (fun j hj hwt => by
        obtain ⟨e, he', hb', hon⟩ := waits_spec hwt
        have h5 := hafter e he' hb'
        rw [hon] at h5
        have hjs : j < listed.size := by rw [inv.size]; omega
        refine hq j (by omega) ?_
        unfold selOf
        simp [hjs] at h5 ⊢; exact h5)
      have hM : MkS P ops (.r fun v w' => (sp i).holds v w' ∧ (i ∈ D → v = .pointer (some ⟨w.heap.size, 0, none⟩))) o (canon ops vs (fun j => decide (j < i)) a m) w := by
        by_cases hiD : i ∈ D
        · obtain ⟨_, o', t, z, ho', hA, hs⟩ := hD i hiD
          have : o' = o := Option.some.inj (ho'.symm.trans ho)
          subst this
          rw [hs]
          refine .inl ⟨by simp [Region.wanted, hA.guard], ?_⟩
          unfold Oper.wp
          rw [hA.run]
          exact ⟨_, rfl, ⟨⟨_, rfl, hB.size, Has.new w t z⟩, fun _ => rfl⟩, newB (Below.refl _ _) _⟩
        · rcases hM0 with ⟨h1, h2⟩ | ⟨h1, h2⟩
          · exact .inl ⟨h1, Oper.wp_mono (fun a' w' ⟨v, q1, q2, q3⟩ => ⟨v, q1, ⟨q2, fun hh => absurd hh hiD⟩, q3⟩) h2⟩
          · exact .inr ⟨h1, h2, fun hh => absurd hh hiD⟩
      refine hM.wpOp ho (by rw [hsz, hsz]) he hw (fun v w' ⟨hv, hvD⟩ hb => ?_)
      have e1 : canon ops vs (selOf listed) a m = canon ops (fun k => if k = i then v else vs k) (selOf listed) a m :=
        canon_congr m (fun k hk => ⟨rfl, fun hs => by
          have : k ≠ i := fun h' => by subst h'; unfold selOf at hs; rw [hu] at hs; cases hs
          simp [this]⟩)
      have e2 : (canon ops vs (selOf listed) a m).put o.dst v = canon ops (fun k => if k = i then v else vs k) (selOf (listed.setIfInBounds i true)) a m := by
        rw [hsel', canon_put hu m him hdis, e1, hdst]
        simp
      rw [e2]
      refine ih _ _ w' (inv.set hi him) (by omega) (fun k x hk => ?_) (hB.trans (hb.mono hB.size)) (fun k hk hs => ?_) (fun k1 h1 k2 h2 hne s1 s2 => ?_)
      · by_cases hki : k = i
        · subst hki; simp only [if_true]; exact Spec.holds_fix hk hv
        · simp only [if_neg hki]; exact hfx k x hk
      · by_cases hki : k = i
        · subst hki; simp only [if_true]; exact hv
        · simp only [if_neg hki]
          have hk2 : selOf listed k = true := by
            rw [hsel'] at hs
            simpa [hki] using hs
          exact Spec.keep (hst k hk) (hq k hk hk2) hb
      · have old : ∀ k, k ∈ D → k ≠ i → selOf (listed.setIfInBounds i true) k = true → selOf listed k = true ∧ vs k ≠ .pointer (some ⟨w.heap.size, 0, none⟩) := fun k hk hki hs => by
          have hk2 : selOf listed k = true := by
            rw [hsel'] at hs
            simpa [hki] using hs
          refine ⟨hk2, fun he' => ?_⟩
          obtain ⟨hkm, o', t, z, _, _, hs'⟩ := hD k hk
          have := hq k hkm hk2
          rw [hs'] at this
          obtain ⟨B, e1, _, e3⟩ := this
          rw [he'] at e1
          simp only [Value.pointer.injEq, Option.some.injEq, Addr.mk.injEq, and_true] at e1
          have := e3.lt
          omega
        by_cases k1i : k1 = i
        · have k2i : k2 ≠ i := fun h => hne (k1i.trans h.symm)
          have := old k2 h2 k2i s2
          simp only [if_pos k1i, if_neg k2i]
          rw [hvD (k1i ▸ h1)]
          exact fun h => this.2 h.symm
        · have q1 := old k1 h1 k1i s1
          simp only [if_neg k1i]
          by_cases k2i : k2 = i
          · simp only [if_pos k2i]
            rw [hvD (k2i ▸ h2)]
            exact q1.2
          · simp only [if_neg k2i]
            exact hdd k1 h1 k2 h2 hne q1.1 (old k2 h2 k2i s2).1
end
section
variable {P : Program} {l : List Oper} {Q : Exit → Act → World → Prop} {a : Act} {w : World}

theorem any_loose2 {m : Nat} (S : List Spec) (i1 i2 d1 d2 : Nat) (hne : i1 ≠ i2) {o1 o2 : Oper} {t1 t2 : TypeId} {z1 z2 : Array Value} (h1 : l[i1]? = some o1) (h2 : l[i2]? = some o2) (hA1 : Makes P o1 t1 z1) (hA2 : Makes P o2 t2 z2) (hd1 : o1.dst = some d1) (hd2 : o2.dst = some d2) (hS1 : S[i1]? = some (.r (NewR w t1 z1))) (hS2 : S[i2]? = some (.r (NewR w t2 z2))) (hz1 : d1 < a.tmps.size) (hz2 : d2 < a.tmps.size) (hF : freeB l.toArray m none = true) (hT : tailB l.toArray m = true) (hms : m ≤ l.length) (hSm : S.length = m)
    (h : OblS P l.toArray w 0 S (l.take m) a [] (fun a' H => ∀ w', Below w.heap.size w w' → (∀ p ∈ H, p.2 w') → a'.tmps[d1]? ≠ a'.tmps[d2]? → wpList P l.toArray Q (l.drop m) a' w')) :
    wpAny P .any l.toArray Q l.toArray.size (Array.replicate l.toArray.size false) a { w with drawn := w.drawn + 1 } := by
  obtain ⟨sp, hsp⟩ : ∃ sp : Nat → Spec, sp = fun j => S.getD j (.v undef) := ⟨_, rfl⟩
  obtain ⟨vs0, hvs0⟩ : ∃ vs0 : Nat → Value, vs0 = fun j => ((sp j).fix).getD undef := ⟨_, rfl⟩
  have hfx0 : ∀ j x, (sp j).fix = some x → vs0 j = x := fun j x hj => by rw [hvs0]; simp only [hj, Option.getD_some]
  have key := fun (vs : Nat → Value) (hfx : ∀ j x, (sp j).fix = some x → vs j = x) => OblS.all (P := P) (ops := l.toArray) (a0 := a) sp vs hfx S (l.take m) 0 [] (fun j s hj => by rw [hsp]; simp [hj])
    (fun j o hj => by
      have hjm : j < m := by have := (List.getElem?_eq_some_iff.1 hj).1; simp at this; omega
      simp only [List.getElem?_take, hjm, if_true] at hj
      simpa using hj) (fun p hp => absurd hp List.not_mem_nil) h
  have hlen : (l.take m).length = m := by simp; omega
  have hcut := fun (vs : Nat → Value) i (hi : i ≤ m) => canon_cut (ops := l.toArray) (vs := vs) (s := fun _ => true) (a := a) m hi
  have e0 : a = canon l.toArray vs0 (selOf (Array.replicate l.toArray.size false)) a m := by
    have e1 : canon l.toArray vs0 (selOf (Array.replicate l.toArray.size false)) a m = canon l.toArray vs0 (fun j => decide (j < 0) && true) a m :=
      canon_congr m (fun j hj => ⟨by simp [selOf, show j < l.length by omega], fun _ => rfl⟩)
    rw [e1, hcut vs0 0 (by omega)]; rfl
  have hm1 : i1 < m := by rw [← hSm]; exact (List.getElem?_eq_some_iff.1 hS1).1
  have hm2 : i2 < m := by rw [← hSm]; exact (List.getElem?_eq_some_iff.1 hS2).1
  have := free_anyD (P := P) (ops := l.toArray) (m := m) [i1, i2] hF hT (Q := Q) (a := a) (w0 := w) sp
    (fun i hi => by
      have ho : ∃ o, l.toArray[i]? = some o := ⟨_, Array.getElem?_eq_getElem (by simp; omega)⟩
      obtain ⟨o, ho⟩ := ho
      exact ((key vs0 hfx0).1 i o (by omega) (by rw [hlen]; omega) ho).1)
    (fun i o hi ho vs w' hfx hB hw => by
      have := ((key vs hfx).1 i o (by omega) (by rw [hlen]; omega) ho).2 w' hB hw
      rw [← hcut vs i (by omega)] at this
      simpa using this)
    (fun i hi => by
      rcases List.mem_cons.1 hi with rfl | hi
      · exact ⟨hm1, o1, t1, z1, by simpa using h1, hA1, by rw [hsp]; simp [hS1]⟩
      · obtain rfl : i = i2 := by simpa using hi
        exact ⟨hm2, o2, t2, z2, by simpa using h2, hA2, by rw [hsp]; simp [hS2]⟩)
    (fun vs w' hfx hB hw hdd => by
      obtain ⟨H', k2, k3⟩ := (key vs hfx).2.2
      rw [hlen, Nat.zero_add] at k3
      simpa using k3 w' hB (fun p hp => by
        obtain ⟨j, R, rfl, e2, e3⟩ := k2 p hp
        have := hw j (by rw [hlen] at e2; omega)
        rw [e3] at this; exact this) (by
        have look : ∀ i o d, i < m → l[i]? = some o → o.dst = some d → d < a.tmps.size → (canon l.toArray vs (fun _ => true) a m).tmps[d]? = some (vs i) := fun i o d hi ho hd hz => by
          have ho' : l.toArray[i]? = some o := by simpa using ho
          have hdst : dstOf l.toArray i = o.dst := by simp [dstOf, ho]
          have hdis : ∀ k, k < m → k ≠ i → ∀ d, dstOf l.toArray k = some d → dstOf l.toArray i ≠ some d := fun k hk hne d hd => by
            rw [hdst]; exact ((freeB_spec hF ho').apart hi k hk hne d hd).1
          have e1 := canon_put (ops := l.toArray) (vs := vs) (sel := fun k => some i != some k) (a := a) (i := i) (by simp) m hi hdis
          have e2 : (fun j => (some i != some j) || j == i) = fun _ => true := by
            funext j
            by_cases hj : j = i
            · simp [hj]
            · simp [hj, Ne.symm hj]
          rw [e2] at e1
          rw [e1, hdst, hd]
          have hzz := (canon_size (ops := l.toArray) (vs := vs) (sel := fun k => some i != some k) (a := a) m).1
          simp [Act.put, hzz, hz]
        rw [look i1 o1 d1 hm1 h1 hd1 hz1, look i2 o2 d2 hm2 h2 hd2 hz2]
        intro he
        exact hdd i1 (by simp) i2 (by simp) hne (Option.some.inj he))) (by simpa using hms)
    l.toArray.size (Array.replicate l.toArray.size false) vs0 { w with drawn := w.drawn + 1 } (head0 m)
    (by have := count_le (p := fun j => !selOf (Array.replicate l.toArray.size false) j) m; simp only [List.size_toArray] at *; omega) hfx0 (Below.refl _ w).drew
    (fun j hj hs => by simp [selOf, show j < l.length by omega] at hs) (fun i hi j hj _ hs => by
      have him : i < m := by
        rcases List.mem_cons.1 hi with rfl | hi
        · exact hm1
        · obtain rfl : i = i2 := by simpa using hi
          exact hm2
      simp [selOf, show i < l.length by omega] at hs)
  rw [← e0] at this
  exact this

/-- As wp_loose, where two of the operations each make a block: the blocks are two. -/
theorem wp_loose2 {id : Nat} (m : Nat) (S : List Spec) (i1 i2 d1 d2 : Nat) (hne : i1 ≠ i2) {o1 o2 : Oper} {t1 t2 : TypeId} {z1 z2 : Array Value} (h1 : l[i1]? = some o1) (h2 : l[i2]? = some o2) (hA1 : Makes P o1 t1 z1) (hA2 : Makes P o2 t2 z2) (hd1 : o1.dst = some d1) (hd2 : o2.dst = some d2)
    (hS1 : S[i1]? = some (.r (NewR w t1 z1))) (hS2 : S[i2]? = some (.r (NewR w t2 z2))) (hz1 : d1 < a.tmps.size) (hz2 : d2 < a.tmps.size) (hm : P.follows .mixedOrders = true) (hF : freeB l.toArray m none = true) (hT : tailB l.toArray m = true) (hms : m ≤ l.length) (hSm : S.length = m)
    (h : ∀ K : Act → Hyps → Prop, (∀ a' H, (∀ w', Below w.heap.size w w' → (∀ p ∈ H, p.2 w') → a'.tmps[d1]? ≠ a'.tmps[d2]? → wpList P l.toArray Q (l.drop m) a' w') → K a' H) → OblS P l.toArray w 0 S (l.take m) a [] K) : (Code.region id l.toArray true).wp P Q a w :=
  wp_region_any hm (any_loose2 S i1 i2 d1 d2 hne h1 h2 hA1 hA2 hd1 hd2 hS1 hS2 hz1 hz2 hF hT hms hSm (h _ fun _ _ h => h))
end
end Go.Proofs
namespace Go.Proofs
open Go.RowKit
attribute [local go_sem ↓] Go.wp_at_zero Go.wp_at_succ

/-- The cells of a list of things of some cells each. -/
def flat {α : Type} (f : α → List Value) : List α → List Value
  | [] => []
  | x :: r => f x ++ flat f r
theorem flat_at {α : Type} {f : α → List Value} {sz : Nat} (hf : ∀ x, (f x).length = sz) : ∀ (xs : List α) (k : Nat) (x : α), xs[k]? = some x → ∀ (j : Nat) (u : Value), (f x)[j]? = some u → (flat f xs)[k * sz + j]? = some u
  | [], _, _, h, _, _, _ => by simp at h
  | y :: r, 0, x, h, j, u, hu => by
    simp at h; subst h
    have hj : j < (f y).length := (List.getElem?_eq_some_iff.1 hu).1
    simp only [flat, Nat.zero_mul, Nat.zero_add]
    rw [List.getElem?_append_left hj]
    exact hu
  | y :: r, k + 1, x, h, j, u, hu => by
    have := flat_at hf r k x (by simpa using h) j u hu
    simp only [flat]
    rw [List.getElem?_append_right (by rw [hf, Nat.add_mul]; omega), hf, ← this]
    congr 1
    rw [Nat.add_mul]; omega
theorem flat_len {α : Type} {f : α → List Value} {sz : Nat} (hf : ∀ x, (f x).length = sz) : ∀ xs : List α, (flat f xs).length = xs.length * sz
  | [] => by simp [flat]
  | x :: r => by simp [flat, hf, flat_len hf r, Nat.add_mul, Nat.add_comm]
theorem flat_append {α : Type} (f : α → List Value) : ∀ xs ys : List α, flat f (xs ++ ys) = flat f xs ++ flat f ys
  | [], ys => rfl
  | x :: r, ys => by simp [flat, flat_append f r ys]
theorem flat_one {α : Type} {f : α → List Value} (h : ∀ x, ∀ u ∈ f x, u.oneCell' = true) : ∀ xs : List α, ∀ u ∈ flat f xs, u.oneCell' = true
  | [], u, hu => by simp [flat] at hu
  | x :: r, u, hu => by
    simp only [flat, List.mem_append] at hu
    rcases hu with hu | hu
    · exact h x u hu
    · exact flat_one h r u hu
/-- A slice of such things. -/
def SlOf {α : Type} (f : α → List Value) (sz : Nat) (w : World) (A : Option Addr) (n : Nat) (xs : List α) : Prop := xs.length = n ∧ SlAt w A n sz (flat f xs)
section
variable {α : Type} {f : α → List Value} {sz : Nat} {w w' : World} {A : Option Addr} {n : Nat} {xs : List α}
theorem SlOf.keep (h : SlOf f sz w A n xs) (hb : Below w.heap.size w w') : SlOf f sz w' A n xs := ⟨h.1, h.2.keep hb⟩
theorem SlOf.addr (h : SlOf f sz w A n xs) (hn : 0 < n) : ∃ b o, A = some ⟨b, o, none⟩ := by
  obtain ⟨b, o, e, _⟩ := h.2.2 hn
  exact ⟨b, o, e⟩
theorem SlOf.range {b o : Nat} (hf : ∀ x, (f x).length = sz) (h : SlOf f sz w (some ⟨b, o, none⟩) n xs) {k : Nat} {x : α} (hx : xs[k]? = some x) : w.rangeAt b (o + k * sz) (f x) := by
  have hk : k < n := by rw [← h.1]; exact (List.getElem?_eq_some_iff.1 hx).1
  obtain ⟨b', o', he, hc⟩ := h.2.2 (by omega)
  cases he
  intro j v hv
  rw [Nat.add_assoc]
  exact hc _ _ (flat_at hf xs k x hx j v hv)
theorem SlOf.lt {b o : Nat} (hf : ∀ x, (f x).length = sz) (hz : 0 < sz) (h : SlOf f sz w (some ⟨b, o, none⟩) n xs) (hn : 0 < n) : b < w.heap.size := by
  have hk : 0 < xs.length := by rw [h.1]; exact hn
  have := h.range hf (List.getElem?_eq_getElem hk)
  have hl : 0 < (f xs[0]).length := by rw [hf]; exact hz
  exact block_lt_of_cell (this 0 _ (List.getElem?_eq_getElem hl))
theorem SlOf.of_cells (hf : ∀ x, (f x).length = sz) {w : World} {D : Nat} {t : TypeId} {cs : Array Value} {n : Nat} {xs : List α} (hg : Has w D t cs) (hl : xs.length = n) (hc : cs.toList = flat f xs) :
    SlOf f sz w (some ⟨D, 0, none⟩) n xs := by
  refine ⟨hl, by rw [flat_len hf, hl], fun _ => ⟨D, 0, rfl, fun j u hu => ?_⟩⟩
  rw [Nat.zero_add, hg.cell j, ← Array.getElem?_toList, hc]; exact hu
theorem SlOf.nil : SlOf f sz w none 0 ([] : List α) := ⟨rfl, by simp [flat], fun h => absurd h (by omega)⟩
end

abbrev Pr := Int × Int
def prC (p : Pr) : List Value := [.int .i64 p.1, .int .i64 p.2]
theorem prC_len (p : Pr) : (prC p).length = 2 := rfl
def inC (x : Int) : List Value := [.int .i64 x]
theorem inC_len (x : Int) : (inC x).length = 1 := rfl
theorem inC_one (x : Int) : ∀ u ∈ inC x, u.oneCell' = true := by simp [inC, Value.oneCell']
def Pe.cs (s : Pe) : List Value := [.int .i64 s.p, .int .i64 s.d, .int .i64 s.f]
theorem Pe.cs_len (s : Pe) : s.cs.length = 3 := rfl
theorem Pe.cs_one (s : Pe) : ∀ u ∈ s.cs, u.oneCell' = true := by simp [Pe.cs, Value.oneCell']
def La.cs (s : La) : List Value := [.int .i64 s.g, .int .i64 s.c, .int .i64 s.w]
theorem La.cs_len (s : La) : s.cs.length = 3 := rfl
theorem La.cs_one (s : La) : ∀ u ∈ s.cs, u.oneCell' = true := by simp [La.cs, Value.oneCell']
def En.cs (s : En) : List Value := [.int .i64 s.s, .int .i64 s.o, .int .i64 s.p, .int .i64 s.w, .int .i64 s.k]
theorem En.cs_len (s : En) : s.cs.length = 5 := rfl
theorem En.cs_one (s : En) : ∀ u ∈ s.cs, u.oneCell' = true := by simp [En.cs, Value.oneCell']

theorem all_take {α : Type} {p : α → Bool} {xs : List α} {n k : Nat} (hn : xs.length = n) (h : ∀ (j : Nat) x, j < k → xs[j]? = some x → p x = true) (hk : n ≤ k) : xs.all p = true := by
  rw [List.all_eq_true]
  intro x hx
  obtain ⟨j, hj, e⟩ := List.getElem_of_mem hx
  exact h j x (by omega) (by rw [← e]; exact List.getElem?_eq_getElem hj)
theorem all_not {α : Type} {p : α → Bool} {xs : List α} {k : Nat} {x : α} (hx : xs[k]? = some x) (h : p x = false) : xs.all p = false := by
  rw [List.all_eq_false]
  exact ⟨x, List.mem_of_getElem? hx, by simp [h]⟩
theorem all_next {α : Type} {p : α → Bool} {xs : List α} {k : Nat} {x : α} (h : ∀ (j : Nat) x, j < k → xs[j]? = some x → p x = true) (hx : xs[k]? = some x) (hp : p x = true) : ∀ (j : Nat) x, j < k + 1 → xs[j]? = some x → p x = true := by
  intro j y hj hy
  rcases Nat.lt_succ_iff_lt_or_eq.1 hj with h' | rfl
  · exact h j y h' hy
  · rw [hx] at hy; cases hy; exact hp
def errI (b : Bool) : Int := if b then 0 else 2

theorem grown_base {w W A : World} {B mb : Nat} (h : Below B w W) (k : W.grownBy A (some mb)) (hm : B ≤ mb) (hB : B ≤ W.heap.size) : Below B w A :=
  ⟨k.os.trans h.os, k.tape.trans h.tape, k.output.trans h.output, Nat.le_trans h.size k.size, fun i hi => (k.block i (by omega) (fun e => by cases e; omega)).trans (h.block i hi)⟩
theorem below_grown {W A : World} {B : Nat} {row : Option Nat} (k : W.grownBy A row) (hm : ∀ r, row = some r → B ≤ r) (hB : B ≤ W.heap.size) : Below B W A := by
  cases row with
  | none =>
    have k2 : W.grownBy A (some W.heap.size) := ⟨k.os, k.tape, k.output, k.size, fun i hi _ => k.block i hi (by simp)⟩
    exact grown_base (Below.refl B W) k2 hB hB
  | some r => exact grown_base (Below.refl B W) k (hm r rfl) hB

/-- Blocks of other things than rows of a type stay. -/
def Spares (w w' : World) (e : TypeId) : Prop := ∀ g, g < w.heap.size → (∀ cs, w.heap[g]? ≠ some (.cells cs e (0, 0))) → w'.heap[g]? = w.heap[g]?
theorem Spares.of_grown {w w' : World} {base size n : Nat} {e : TypeId} {v : Value} {xs : List Value} (ho : w.ownsRow base e size v n xs) (k : w.grownBy w' v.ownBlock) : Spares w w' e := by
  intro g hlt hg
  refine k.block g hlt (fun e1 => ?_)
  rcases ho.2 with ⟨rfl, _⟩ | ⟨g', cap, cur, rfl, _, h3, _⟩
  · cases e1
  · cases e1
    exact hg _ h3
theorem Spares.has {w w' : World} {e : TypeId} (h : Spares w w' e) {g : Nat} {t : TypeId} {cs : Array Value} (hg : Has w g t cs) (ht : t ≠ e) : Has w' g t cs :=
  (h g hg.lt (fun cs' h' => by unfold Has at hg; rw [h'] at hg; cases hg; exact ht rfl)).trans hg
theorem owns_keep {w w' : World} {base size n : Nat} {e : TypeId} {v : Value} {xs : List Value} (h : w.ownsRow base e size v n xs) (hb : Below w.heap.size w w') : w'.ownsRow base e size v n xs := by
  refine ⟨h.1, ?_⟩
  rcases h.2 with h | ⟨g, cap, cur, e1, e2, e3, e4⟩
  · exact .inl h
  · exact .inr ⟨g, cap, cur, e1, e2, (hb.block g (Array.getElem?_eq_some_iff.1 e3).1).trans e3, e4⟩
theorem owns_base {b b' size n : Nat} {e : TypeId} {v : Value} {xs : List Value} {w : World} (hb : b ≤ b') (h : w.ownsRow b' e size v n xs) : w.ownsRow b e size v n xs := by
  refine ⟨h.1, ?_⟩
  rcases h.2 with h | ⟨g, cap, cur, h1, h2, h3⟩
  · exact .inl h
  · exact .inr ⟨g, cap, cur, h1, Nat.le_trans hb h2, h3⟩
theorem Spares.owns {w w' : World} {e : TypeId} (h : Spares w w' e) {base sz n : Nat} {t : TypeId} {v : Value} {xs : List Value} (ho : w.ownsRow base t sz v n xs) (ht : t ≠ e) : w'.ownsRow base t sz v n xs := by
  refine ⟨ho.1, ?_⟩
  rcases ho.2 with h1 | ⟨g, cap, cur, e1, e2, e3, e4⟩
  · exact .inl h1
  · exact .inr ⟨g, cap, cur, e1, e2, h.has (t := t) (cs := cur) e3 ht, e4⟩
theorem owns_sl {α : Type} {f : α → List Value} {sz : Nat} {w : World} {base : Nat} {t : TypeId} {v : Value} {n : Nat} {xs : List α} (hn : xs.length = n) (h : w.ownsRow base t sz v n (flat f xs)) : ∃ A c, v = .slice A n c ∧ SlOf f sz w A n xs ∧ (A = none → c = 0) := by
  rcases h.2 with ⟨rfl, rfl⟩ | ⟨g, cap, cur, rfl, _, h3, _, _, _, h7⟩
  · exact ⟨none, 0, rfl, ⟨hn, h.1, fun h => absurd h (by omega)⟩, fun _ => rfl⟩
  · refine ⟨some ⟨g, 0, none⟩, cap, rfl, ⟨hn, h.1, fun _ => ⟨g, 0, rfl, fun j u hu => ?_⟩⟩, fun h => by cases h⟩
    rw [← h7, List.getElem?_take] at hu
    split at hu
    · rw [Nat.zero_add, Has.cell h3 j, ← Array.getElem?_toList]; exact hu
    · cases hu

/-- A kind of things in slices: T the slice's type, E the thing's. -/
structure El (α : Type) where
  f : α → List Value
  sz : Nat
  T : TypeId
  E : TypeId
  by' : Nat
  z : Value
structure El.Ok {α : Type} (e : El α) : Prop where
  len : ∀ x, (e.f x).length = e.sz
  one : ∀ x, ∀ u ∈ e.f x, u.oneCell' = true
  und : Tryz.prog.underlying e.T = some (.slice e.E)
  inf : ∃ i, Tryz.prog.info? e.E = some i ∧ i.zero = some e.z ∧ i.bytes = e.by' ∧ i.size = e.sz
  zc : e.z.cells.size = e.sz
  pos : 0 < e.sz
  small : e.by' ≤ 1000
/-- A value that is a list of such things, made here. -/
def Own {α : Type} (e : El α) (base : Nat) (v : Value) (xs : List α) (w : World) : Prop := w.ownsRow base e.E e.sz v xs.length (flat e.f xs)
section
variable {α : Type} {e : El α} {base : Nat} {v : Value} {xs : List α} {w w' : World}
theorem Own.keep (h : Own e base v xs w) (hb : Below w.heap.size w w') : Own e base v xs w' := owns_keep h hb
theorem Own.lower {b' : Nat} (h : Own e base v xs w) (hb : b' ≤ base) : Own e b' v xs w := owns_base hb h
theorem Own.nil (e : El α) (base : Nat) (w : World) : Own e base (.slice none 0 0) [] w := World.ownsRow_nil _ _ _ _
theorem Own.sl (h : Own e base v xs w) : ∃ A c, v = .slice A xs.length c ∧ SlOf e.f e.sz w A xs.length xs ∧ (A = none → c = 0) := owns_sl rfl h
theorem Own.spared {t : TypeId} (h : Own e base v xs w) (hs : Spares w w' t) (ht : e.E ≠ t) : Own e base v xs w' := hs.owns h ht
theorem Own.alloc (h : Own e base v xs w) (o : Obj) : Own e base v xs (w.alloc o) := h.keep (newB (Below.refl _ _) o)

theorem El.app1 (hk : e.Ok) {ops : Array Oper} {rest : List Oper} {o : Oper} {a : Act} {Q : Exit → Act → World → Prop} (hgd : o.guard = none) (s x : Operand)
    (ho : o.op = .call { callee := .builtin .append, args := #[s, x], argTypes := #[e.T, e.T] })
    (base : Nat) (v : Value) (xs : List α) (hs : a.eval s = v) (hown : Own e base v xs w) (hlen : xs.length ≤ 20000000)
    (b : Nat) (y : α) (hx : a.eval x = .slice (some ⟨b, 0, none⟩) 1 1) (hb : Has w b e.E (e.f y).toArray) (hbase : base ≤ w.heap.size)
    (h : ∀ v' w', Own e base v' (xs ++ [y]) w' → Below base w w' → Spares w w' e.E → wpList Tryz.prog ops Q rest (a.put o.dst v') w') : wpList Tryz.prog ops Q (o :: rest) a w := by
  obtain ⟨i, hi, hz, hby, hsz⟩ := hk.inf
  have h1000 := hk.small
  refine wpList_append_own w hgd s x e.T ho base e.E i _ e.sz e.by' hk.und hi hz hsz hby hk.zc hk.pos v xs.length _ hs hown ⟨b, 0, none⟩ 1 1 (e.f y) hx (by rw [hk.len]; omega) ?_ (hk.one y) (by unfold maxLen; omega)
    (by have := Nat.mul_le_mul (show xs.length + 1 ≤ 20000001 by omega) h1000; omega) hbase
    (fun v' w' e1 e2 _ => h v' w' (by unfold Own; rw [flat_append]; simpa [flat] using e1) (below_grown e2 (fun r hr => (hown.lt r hr).1) hbase) (Spares.of_grown hown e2))
  intro j u hu
  have hadd : (⟨b, 0, none⟩ : Addr).add j = ⟨b, j, none⟩ := by unfold Addr.add; split <;> simp_all
  rw [hadd, hb.cell j]
  simpa using hu

/-- Slices that are made. -/
theorem El.makes (hk : e.Ok) (n : Nat) (hn : n ≤ 1000000) (w : World) : (Instr.makeSlice e.T (.int .i64 (n : Int)) (.int .i64 (n : Int))).run Tryz.prog w = .ok (.slice (some ⟨w.heap.size, 0, none⟩) n n) (w.alloc (.cells (madeCells e.z.cells (n * e.sz)) e.E)) := by
  obtain ⟨i, hi, hz, hb, hs⟩ := hk.inf
  have h1000 := hk.small
  have := run_make (P := Tryz.prog) w e.T e.E i _ hk.und hi hz .i64 .i64 n n (by omega) (by omega) (by have := Nat.mul_le_mul h1000 hn; rw [hb, ← Int.natCast_mul]; omega) (by omega)
  simp only [hs, Int.toNat_natCast] at this
  exact this
/-- A row that is filled is a list. -/
theorem Own.of_has {g n : Nat} {cur : Array Value} (hz : e.Ok) (hg : Has w g e.E cur) (hb : base ≤ g) (hn : xs.length = n) (hsz : cur.size = n * e.sz) (hc : cur.toList = flat e.f xs) (hmx : n ≤ maxLen) : Own e base (.slice (some ⟨g, 0, none⟩) n n) xs w := by
  refine ⟨by rw [flat_len hz.len], .inr ⟨g, n, cur, by rw [hn], hb, hg, by omega, hmx, hsz, ?_⟩⟩
  rw [← hc, List.take_of_length_le (by simp [hsz, hn])]
end

def eI : El Int := ⟨inC, 1, 30, 3, 8, .int .i64 0⟩
def eP : El Pe := ⟨Pe.cs, 3, 22, 49, 24, .agg #[.int .i64 0, .int .i64 0, .int .i64 0]⟩
def eL : El La := ⟨La.cs, 3, 23, 44, 24, .agg #[.int .i64 0, .int .i64 0, .int .i64 0]⟩
def eE : El En := ⟨En.cs, 5, 36, 46, 40, .agg #[.int .i64 0, .int .i64 0, .int .i64 0, .int .i64 0, .int .i64 0]⟩
theorem inf_of {t : TypeId} {z : Value} {b s : Nat} (h : (Tryz.prog.info? t).isSome = true) (h1 : ((Tryz.prog.info? t).get h).zero = some z) (h2 : ((Tryz.prog.info? t).get h).bytes = b) (h3 : ((Tryz.prog.info? t).get h).size = s) :
    ∃ i, Tryz.prog.info? t = some i ∧ i.zero = some z ∧ i.bytes = b ∧ i.size = s := ⟨_, (Option.some_get _).symm, h1, h2, h3⟩
theorem eI_ok : eI.Ok := ⟨inC_len, inC_one, by kernel_rfl, inf_of (by kernel_rfl) (by kernel_rfl) (by kernel_rfl) (by kernel_rfl), rfl, by decide, by decide⟩
theorem eP_ok : eP.Ok := ⟨Pe.cs_len, Pe.cs_one, by kernel_rfl, inf_of (by kernel_rfl) (by kernel_rfl) (by kernel_rfl) (by kernel_rfl), rfl, by decide, by decide⟩
theorem eL_ok : eL.Ok := ⟨La.cs_len, La.cs_one, by kernel_rfl, inf_of (by kernel_rfl) (by kernel_rfl) (by kernel_rfl) (by kernel_rfl), rfl, by decide, by decide⟩
theorem eE_ok : eE.Ok := ⟨En.cs_len, En.cs_one, by kernel_rfl, inf_of (by kernel_rfl) (by kernel_rfl) (by kernel_rfl) (by kernel_rfl), rfl, by decide, by decide⟩
/-- What a call hands back: a list that it has made. -/
def Gives {α : Type} (e : El α) (w0 : World) (xs : List α) (r : Ending) (w' : World) : Prop := ∃ v, r = .returned v ∧ Own e w0.heap.size v xs w' ∧ Below w0.heap.size w0 w'
end Go.Proofs
namespace Go.Proofs
open Go.RowKit

def bk (p r : Int) : Value := .agg #[.int .i64 p, .int .i64 r]
def sv (v : Int) : Value := .int .i64 v
theorem bk_inj {p r p' r' : Int} (h : bk p r = bk p' r') : p = p' ∧ r = r' := by
  unfold bk at h
  simpa using h

theorem eq154 (p r p' r' : Int) (w : World) : (Op.equal 154 (bk p r) (bk p' r')).run Tryz.prog w = .ok (p == p' && r == r') w := by
  unfold Op.equal Op.maxDepth bk
  rw [run_equalIn_struct _ _ _ _ _ (by kernel_rfl) (by kernel_rfl)]
  simp [go_sem, Op.eqFields, Tryz.underlying154, Program.fieldsOf]
  split
  · split <;> simp_all
  · simp_all
theorem chk154 (em : Bool) (p r : Int) (w : World) : (Instr.checkKey em 10000 154 (bk p r)).run Tryz.prog w = .ok () w := by kernel_rfl
theorem stays154 (p r : Int) (w : World) : (Instr.keyThatStays (bk p r) (bk p r)).run Tryz.prog w = .ok (bk p r) w := by
  unfold Instr.keyThatStays
  have : Instr.sameBits 10000 (bk p r) (bk p r) = true := by simp [bk, Instr.sameBits]
  simp [this]

theorem ask154 (p r : Int) (w : World) : ∀ (es : List MapEntry) (i : Nat), (∀ e ∈ es, ∃ p' r', e.key = bk p' r') →
    ((Instr.findAsking 154 (bk p r) es i).run Tryz.prog w = .ok none w ∧ ∀ e ∈ es, e.key ≠ bk p r) ∨
    ∃ j e, (Instr.findAsking 154 (bk p r) es i).run Tryz.prog w = .ok (some (i + j, e.val)) w ∧ es[j]? = some e ∧ e.key = bk p r
  | [], i, _ => .inl ⟨rfl, fun _ h => absurd h List.not_mem_nil⟩
  | e :: es, i, h => by
    obtain ⟨p', r', he⟩ := h e (by simp)
    have ih := ask154 p r w es (i + 1) (fun x hx => h x (by simp [hx]))
    simp only [Instr.findAsking, Sem.run_bind, he, eq154, Result.andThen_ok]
    by_cases hk : p = p' ∧ r = r'
    · obtain ⟨rfl, rfl⟩ := hk
      right
      exact ⟨0, e, by simp, rfl, he⟩
    · have hb : (p == p' && r == r') = false := by
        simp only [Bool.and_eq_false_iff, beq_eq_false_iff_ne]
        by_cases hp : p = p'
        · exact .inr fun hr => hk ⟨hp, hr⟩
        · exact .inl hp
      rw [hb]
      simp only [Bool.false_eq_true, if_false]
      rcases ih with ⟨h1, h2⟩ | ⟨j, x, h1, h2, h3⟩
      · left
        refine ⟨h1, fun x hx => ?_⟩
        rcases List.mem_cons.1 hx with rfl | hx
        · rw [he]; intro h'
          obtain ⟨h4, h5⟩ := bk_inj h'
          exact hk ⟨h4.symm, h5.symm⟩
        · exact h2 x hx
      · right
        refine ⟨j + 1, x, ?_, by simpa using h2, h3⟩
        rw [h1]; congr 3; omega

theorem find154 (p r : Int) (w : World) (es : List MapEntry) (h : ∀ e ∈ es, ∃ p' r', e.key = bk p' r') :
    ((Instr.findKey 154 (bk p r) es).run Tryz.prog w = .ok none w ∧ ∀ e ∈ es, e.key ≠ bk p r) ∨
    ∃ j e, (Instr.findKey 154 (bk p r) es).run Tryz.prog w = .ok (some (j, e.val)) w ∧ es[j]? = some e ∧ e.key = bk p r := by
  have hu := @run_underlying Tryz.prog _ _ Tryz.underlying154 w
  simp only [Instr.findKey, Sem.run_bind, hu, Result.andThen_ok]
  cases es with
  | nil => exact .inl ⟨rfl, fun _ h => absurd h List.not_mem_nil⟩
  | cons e es =>
    obtain ⟨p', r', he⟩ := h e (by simp)
    have : Instr.findNow (.struct (Tryz.prog.fieldsOf 154)) (bk p r) (e :: es) 0 = none := by
      simp [Instr.findNow, Instr.sameNow]
    have hn : Instr.findNow (TypeDesc.struct
      #[{ name := "landing", type := 3, offset := 0, embedded := false, tag := "", pkgPath := "bathyal/share",
          byteOffset := 0 },
        { name := "person", type := 3, offset := 1, embedded := false, tag := "", pkgPath := "bathyal/share",
          byteOffset := 8 }]) (bk p r) (e :: es) 0 = none := by simp [Instr.findNow, Instr.sameNow]
    rw [hn]
    simpa using ask154 p r w (e :: es) 0 h

/-- Block b is a map that reads as f. -/
structure MapAt (w : World) (b : Nat) (f : Int → Int → Option Int) : Prop where
  ex : ∃ es ck, w.heap[b]? = some (.map es ck) ∧ es.toList.Pairwise (fun x y => x.key ≠ y.key) ∧ (∀ e ∈ es.toList, ∃ p r v, e.key = bk p r ∧ e.val = sv v ∧ f p r = some v) ∧
    ∀ p r v, f p r = some v → ∃ e ∈ es.toList, e.key = bk p r
section
variable {w w' : World} {b : Nat} {f : Int → Int → Option Int}
theorem MapAt.same (h : MapAt w b f) (he : w'.heap[b]? = w.heap[b]?) : MapAt w' b f := by
  obtain ⟨es, ck, h1, h2⟩ := h.ex
  exact ⟨es, ck, he.trans h1, h2⟩
theorem MapAt.lt (h : MapAt w b f) : b < w.heap.size := by
  obtain ⟨es, ck, h1, _⟩ := h.ex
  exact (Array.getElem?_eq_some_iff.1 h1).1
theorem MapAt.keep (h : MapAt w b f) (hb : Below w.heap.size w w') : MapAt w' b f := h.same (hb.block b h.lt)
theorem MapAt.new (w : World) : MapAt (w.alloc (.map #[] 0)) w.heap.size (fun _ _ => none) :=
  ⟨#[], 0, World.alloc_heap_new w _, by simp, by simp, fun _ _ _ h => by cases h⟩

theorem MapAt.lookup (h : MapAt w b f) (p r : Int) : (Instr.lookup 111 (.map (some b)) (bk p r) false).run Tryz.prog w = .ok (.int .i64 ((f p r).getD 0)) w := by
  obtain ⟨es, ck, h1, h2, h3, h4⟩ := h.ex
  have hu := @run_underlying Tryz.prog _ _ Tryz.underlying111 w
  have hg : (getObj b).run Tryz.prog w = .ok (.map es ck) w := by simp [getObj, Sem.run, h1]
  have hz : (zeroValue 3).run Tryz.prog w = .ok (.int .i64 0) w := by kernel_rfl
  rcases find154 p r w es.toList (fun e he => by obtain ⟨p', r', _, hk, _⟩ := h3 e he; exact ⟨p', r', hk⟩) with ⟨h5, h6⟩ | ⟨j, e, h5, h6, h7⟩
  · have hn : f p r = none := by
      cases hv : f p r with
      | none => rfl
      | some v => obtain ⟨e0, he0, hk0⟩ := h4 p r v hv; exact absurd hk0 (h6 e0 he0)
    simp only [Instr.lookup, Sem.run_bind, hu, hg, chk154, h5, Result.andThen_ok, Sem.run_pure, hn, hz]
    rfl
  · obtain ⟨p', r', v', k1, k2, k3⟩ := h3 e (List.mem_of_getElem? h6)
    obtain ⟨rfl, rfl⟩ := bk_inj (k1.symm.trans h7)
    simp only [Instr.lookup, Sem.run_bind, hu, hg, chk154, h5, Result.andThen_ok, Sem.run_pure, k2, k3]
    rfl

theorem MapAt.update (h : MapAt w b f) (p r : Int) (v : Int) : ∃ o, o.isCells = false ∧ (Instr.mapUpdate 111 (.map (some b)) (bk p r) (sv v)).run Tryz.prog w = .ok () (w.putObj b o) ∧
    MapAt (w.putObj b o) b (fun p' r' => if p' = p ∧ r' = r then some v else f p' r') := by
  obtain ⟨es, ck, h1, h2, h3, h4⟩ := h.ex
  have hlt := h.lt
  have hu := @run_underlying Tryz.prog _ _ Tryz.underlying111 w
  have hg : (getObj b).run Tryz.prog w = .ok (.map es ck) w := by simp [getObj, Sem.run, h1]
  have hs : ∀ es' ck', (setObj b (.map es' ck')).run Tryz.prog w = .ok () (w.putObj b (.map es' ck')) := fun es' ck' => by simp [setObj, Sem.run, h1, World.putObj]
  rcases find154 p r w es.toList (fun e he => by obtain ⟨p', r', _, hk, _⟩ := h3 e he; exact ⟨p', r', hk⟩) with ⟨h5, h6⟩ | ⟨j, e, h5, h6, h7⟩
  · refine ⟨.map (es.push { key := bk p r, val := sv v, born := ck }) (ck + 1), rfl, ?_, ⟨_, _, World.putObj_heap_same hlt, ?_, ?_, ?_⟩⟩
    · simp only [Instr.mapUpdate, Sem.run_bind, hu, hg, chk154, h5, Result.andThen_ok, hs]
    · rw [Array.toList_push, List.pairwise_append]
      refine ⟨h2, by simp, fun x hx y hy => ?_⟩
      simp at hy; subst hy
      exact h6 x hx
    · intro x hx
      rw [Array.toList_push, List.mem_append] at hx
      rcases hx with hx | hx
      · obtain ⟨p', r', v', k1, k2, k3⟩ := h3 x hx
        refine ⟨p', r', v', k1, k2, ?_⟩
        rw [if_neg, k3]
        rintro ⟨rfl, rfl⟩
        exact h6 x hx k1
      · simp at hx; subst hx
        exact ⟨p, r, v, rfl, rfl, by simp⟩
    · intro p' r' v' hv
      by_cases hk : p' = p ∧ r' = r
      · obtain ⟨rfl, rfl⟩ := hk
        exact ⟨{ key := bk p' r', val := sv v, born := ck }, by rw [Array.toList_push]; simp, rfl⟩
      · rw [if_neg hk] at hv
        obtain ⟨x, hx, hxk⟩ := h4 p' r' v' hv
        exact ⟨x, by rw [Array.toList_push]; simp [hx], hxk⟩
  · have hj : j < es.toList.length := (List.getElem?_eq_some_iff.1 h6).1
    have hje : es[j]? = some e := by simpa using h6
    have hj' : j < es.size := by simpa using hj
    have e2 : (es.modify j fun e => { e with key := bk p r, val := sv v }).toList = es.toList.set j { e with key := bk p r, val := sv v } := by
      apply List.ext_getElem?
      intro i
      simp only [Array.toList_modify, List.getElem?_modify, List.getElem?_set]
      by_cases hij : j = i
      · subst hij; rw [if_pos rfl, if_pos hj]; simp [h6]
      · simp [hij]
    refine ⟨.map (es.modify j fun e => { e with key := bk p r, val := sv v }) ck, rfl, ?_, ⟨_, _, World.putObj_heap_same hlt, ?_, ?_, ?_⟩⟩
    · simp only [Instr.mapUpdate, Sem.run_bind, hu, hg, chk154, h5, Result.andThen_ok, hje, Option.map_some, Option.getD_some, h7, stays154, hs]
    · rw [e2]
      rw [List.pairwise_iff_getElem] at h2 ⊢
      intro i k hi hk hik
      simp only [List.length_set] at hi hk
      have hke : ∀ i (hi : i < es.toList.length), ((es.toList.set j { e with key := bk p r, val := sv v })[i]'(by simpa using hi)).key = es.toList[i].key := by
        intro i hi
        rw [List.getElem_set]
        split
        · rename_i hji; subst hji
          have : es.toList[j] = e := by simpa [List.getElem?_eq_getElem hj] using h6
          rw [this, h7]
        · rfl
      rw [hke i hi, hke k hk]
      exact h2 i k hi hk hik
    · intro x hx
      rw [e2] at hx
      obtain ⟨i, hi, rfl⟩ := List.getElem_of_mem hx
      have hi' : i < es.toList.length := by simpa using hi
      rw [List.getElem_set]
      split
      · exact ⟨p, r, v, rfl, rfl, by simp⟩
      · rename_i hji
        obtain ⟨p', r', v', k1, k2, k3⟩ := h3 _ (List.getElem_mem hi')
        refine ⟨p', r', v', k1, k2, ?_⟩
        rw [if_neg, k3]
        rintro ⟨rfl, rfl⟩
        rw [List.pairwise_iff_getElem] at h2
        have hej : es.toList[j] = e := by simpa [List.getElem?_eq_getElem hj] using h6
        rcases Nat.lt_or_gt_of_ne hji with hl | hl
        · exact h2 j i hj hi' hl (by rw [hej, h7, k1])
        · exact h2 i j hi' hj hl (by rw [hej, h7, k1])
    · intro p' r' v' hv
      rw [e2]
      by_cases hk : p' = p ∧ r' = r
      · obtain ⟨rfl, rfl⟩ := hk
        exact ⟨_, List.mem_set hj _, rfl⟩
      · rw [if_neg hk] at hv
        obtain ⟨x, hx, hxk⟩ := h4 p' r' v' hv
        obtain ⟨i, hi, rfl⟩ := List.getElem_of_mem hx
        have hji : j ≠ i := by
          rintro rfl
          have hej : es.toList[j] = e := by simpa [List.getElem?_eq_getElem hj] using h6
          rw [hej, h7] at hxk
          obtain ⟨h8, h9⟩ := bk_inj hxk
          exact hk ⟨h8.symm, h9.symm⟩
        refine ⟨es.toList[i], ?_, hxk⟩
        have : (es.toList.set j { e with key := bk p r, val := sv v })[i]'(by simpa using hi) = es.toList[i] := by rw [List.getElem_set, if_neg hji]
        rw [← this]
        exact List.getElem_mem _
end
end Go.Proofs
