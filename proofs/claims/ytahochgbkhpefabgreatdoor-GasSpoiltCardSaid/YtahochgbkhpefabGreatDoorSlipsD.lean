/-
  Nothing is read of a slip of which one digit was changed, and the law GasSpoilt returns true at every dive and every two numbers where the table of powers of ten lies in memory.
-/
import Derived.Test.YtahochgbkhpefabGreatDoorSlipsC
namespace Go.Proofs
open Go.RowKit Go.Shelf Gas

/-! A slip of which one digit was changed is no slip. -/
theorem pieces_one {c x y : UInt8} (hx : x ≠ c) (hy : y ≠ c) (b : List UInt8) : ∀ (a : List UInt8), ∃ pre l r post, pieces c (a ++ x :: b) = pre ++ (l ++ x :: r) :: post ∧ pieces c (a ++ y :: b) = pre ++ (l ++ y :: r) :: post
  | [] => by
    obtain ⟨p, ps, hp⟩ := pieces_cons c b
    have h1 : (x == c) = false := by simpa using hx
    have h2 : (y == c) = false := by simpa using hy
    exact ⟨[], [], p, ps, by simp [pieces, h1, hp], by simp [pieces, h2, hp]⟩
  | z :: a => by
    obtain ⟨pre, l, r, post, e1, e2⟩ := pieces_one hx hy b a
    by_cases hz : z = c
    · subst hz
      exact ⟨[] :: pre, l, r, post, by simp [pieces, e1], by simp [pieces, e2]⟩
    · have h1 : (z == c) = false := by simpa using hz
      cases pre with
      | nil => exact ⟨[], z :: l, r, post, by simp [pieces, h1, e1], by simp [pieces, h1, e2]⟩
      | cons p0 pre => exact ⟨(z :: p0) :: pre, l, r, post, by simp [pieces, h1, e1], by simp [pieces, h1, e2]⟩
theorem at_one {α : Type} (pre post : List α) (u : α) (j : Nat) : (pre ++ u :: post)[j]? = if j < pre.length then pre[j]? else if j = pre.length then some u else post[j - pre.length - 1]? := by
  by_cases h : j < pre.length
  · rw [if_pos h, List.getElem?_append_left h]
  · rw [if_neg h, List.getElem?_append_right (by omega)]
    by_cases h2 : j = pre.length
    · subst h2; simp
    · rw [if_neg h2, show j - pre.length = (j - pre.length - 1) + 1 by omega]; simp
/-- Two lists that differ in one place. -/
theorem one_place {α : Type} {pre post : List α} {u v : α} {L M : List α} (h1 : L = pre ++ u :: post) (h2 : M = pre ++ v :: post) : L.length = M.length ∧ L[pre.length]? = some u ∧ M[pre.length]? = some v ∧ pre.length < L.length ∧ ∀ j, j ≠ pre.length → L[j]? = M[j]? := by
  subst h1; subst h2
  refine ⟨by simp, by simp, by simp, by simp, fun j hj => ?_⟩
  rw [at_one, at_one, if_neg hj, if_neg hj]
theorem one_ne {l r : List UInt8} {x y : UInt8} (h : l ++ x :: r = l ++ y :: r) : x = y := by
  have := List.append_cancel_left h
  exact (List.cons.inj this).1
theorem totS_at (a b : List Int) (l2 : List (List Int)) : ∀ (l1 : List (List Int)) (i : Int), totS i (l1 ++ a :: l2) - totS i (l1 ++ b :: l2) = rowS (i + l1.length + 1) 0 a - rowS (i + l1.length + 1) 0 b
  | [], i => by simp [totS]; omega
  | r :: l, i => by
    have := totS_at a b l2 l (i + 1)
    simp only [List.cons_append, totS, List.length_cons]
    have e : i + ((l.length + 1 : Nat) : Int) + 1 = i + 1 + (l.length : Int) + 1 := by push_cast; omega
    rw [e]; omega
theorem numV_at (x y : UInt8) (r : List UInt8) : ∀ (l : List UInt8), numV (l ++ x :: r) - numV (l ++ y :: r) = ((x.toNat : Int) - y.toNat) * 10 ^ r.length := by
  intro l
  unfold numV
  rw [List.foldl_append, List.foldl_append, List.foldl_cons, List.foldl_cons]
  have key : ∀ (r : List UInt8) (a b : Int), r.foldl (fun n b => 10 * n + ((b.toNat : Int) - 48)) a - r.foldl (fun n b => 10 * n + ((b.toNat : Int) - 48)) b = (a - b) * 10 ^ r.length := by
    intro r
    induction r with
    | nil => intro a b; simp
    | cons z r ih =>
      intro a b
      rw [List.foldl_cons, List.foldl_cons, ih, List.length_cons, Int.pow_succ]
      rw [show (10 * a + ((z.toNat : Int) - 48) - (10 * b + ((z.toNat : Int) - 48))) = (a - b) * 10 by omega, Int.mul_assoc]
      congr 1
      rw [Int.mul_comm]
  rw [key]
  congr 1
  omega
theorem chk_inj {R S : List (List Int)} (h : chkL R = chkL S) : totS 0 R % 97 = totS 0 S % 97 := by
  have one : ∀ d : Int, 0 ≤ d ∧ d < 10 → ∃ z, Lib.itoa d = [z] := by
    intro d hd
    obtain ⟨m, rfl⟩ := Int.eq_ofNat_of_zero_le hd.1
    refine ⟨dgt m, ?_⟩
    rw [itoa_nat, dec_split, if_pos (by omega)]; rfl
  unfold chkL at h
  obtain ⟨a, ha⟩ := one (totS 0 R % 97 / 10) (by omega)
  obtain ⟨b, hb⟩ := one (totS 0 R % 97 % 10) (by omega)
  obtain ⟨c, hc⟩ := one (totS 0 S % 97 / 10) (by omega)
  obtain ⟨d, hd⟩ := one (totS 0 S % 97 % 10) (by omega)
  rw [ha, hb, hc, hd] at h
  simp at h
  have e1 : totS 0 R % 97 / 10 = totS 0 S % 97 / 10 := by
    rw [← itoa_num (x := totS 0 R % 97 / 10) (by omega), ← itoa_num (x := totS 0 S % 97 / 10) (by omega), ha, hc, h.1]
  have e2 : totS 0 R % 97 % 10 = totS 0 S % 97 % 10 := by
    rw [← itoa_num (x := totS 0 R % 97 % 10) (by omega), ← itoa_num (x := totS 0 S % 97 % 10) (by omega), hb, hd, h.2]
  omega
end Go.Proofs
namespace Go.Proofs
open Go.RowKit Go.Shelf Gas

theorem rowS_lin (i u v : Int) (l2 : List Int) : ∀ (l1 : List Int) (k : Int), rowS i k (l1 ++ u :: l2) - rowS i k (l1 ++ v :: l2) = i * (k + l1.length + 1) * (u - v)
  | [], k => by simp only [List.nil_append, rowS, List.length_nil]; rw [Int.mul_sub]; simp only [Int.ofNat_zero, Int.add_zero]; omega
  | x :: r, k => by
    have := rowS_lin i u v l2 r (k + 1)
    simp only [List.cons_append, rowS, List.length_cons]
    have e : k + ((r.length + 1 : Nat) : Int) + 1 = k + 1 + (r.length : Int) + 1 := by push_cast; omega
    rw [e]; omega
def rowL (s : St) : List Int := [s.dl, s.dh, s.ml, s.mh]
theorem itoa_inj {a b : Int} (ha : 0 ≤ a) (hb : 0 ≤ b) (h : Lib.itoa a = Lib.itoa b) : a = b := by
  rw [← itoa_num ha, ← itoa_num hb, h]
theorem num_one {u v : Int} {l r : List UInt8} {x y : UInt8} (hu : 0 ≤ u ∧ u < 1000) (hv : 0 ≤ v) (h1 : Lib.itoa u = l ++ x :: r) (h2 : Lib.itoa v = l ++ y :: r) : u - v = ((x.toNat : Int) - y.toNat) * 10 ^ r.length ∧ r.length ≤ 2 := by
  have h3 := itoa_len3 hu
  rw [h1] at h3
  refine ⟨?_, by simp at h3; omega⟩
  rw [← itoa_num hu.1, ← itoa_num hv, h1, h2]; exact numV_at x y r l
/-- Two stages whose lines differ in one digit. -/
theorem line_one {s t : St} (hs : stLow s) (ht : stLow t) {l r : List UInt8} {x y : UInt8} (hx : digB x = true) (hy : digB y = true) (hxy : x ≠ y) (h1 : lineS s = l ++ x :: r) (h2 : lineS t = l ++ y :: r) :
    ∃ m e : Nat, (1 ≤ m ∧ m ≤ 4) ∧ e ≤ 2 ∧ ∀ i : Int, rowS i 0 (rowL s) - rowS i 0 (rowL t) = i * m * (((x.toNat : Int) - y.toNat) * 10 ^ e) := by
  have hx32 : x ≠ 32 := by rintro rfl; revert hx; decide
  have hy32 : y ≠ 32 := by rintro rfl; revert hy; decide
  obtain ⟨pre, l2, r2, post, e1, e2⟩ := pieces_one hx32 hy32 r l
  rw [← h1, line_words hs] at e1
  rw [← h2, line_words ht] at e2
  obtain ⟨_, q2, q3, q4, q5⟩ := one_place e1 e2
  obtain ⟨s1, s2, s3, s4⟩ := hs
  obtain ⟨t1, t2, t3, t4⟩ := ht
  have hp : pre.length = 0 ∨ pre.length = 1 ∨ pre.length = 2 ∨ pre.length = 3 ∨ pre.length = 4 := by simp at q4; omega
  rcases hp with h | h | h | h | h <;> rw [h] at q2 q3 q5 <;> simp at q2 q3
  · exact absurd (one_ne (q2.symm.trans q3)) hxy
  · have a2 := q5 2 (by omega); have a3 := q5 3 (by omega); have a4 := q5 4 (by omega)
    simp at a2 a3 a4
    obtain ⟨n1, n2⟩ := num_one s1 t1.1 q2 q3
    have b2 := itoa_inj s2.1 t2.1 a2; have b3 := itoa_inj s3.1 t3.1 a3; have b4 := itoa_inj s4.1 t4.1 a4
    refine ⟨1, r2.length, by omega, n2, fun i => ?_⟩
    have := rowS_lin i s.dl t.dl [s.dh, s.ml, s.mh] [] 0
    rw [← n1]; simp only [rowL, ← b2, ← b3, ← b4]; simpa using this
  · have a1 := q5 1 (by omega); have a3 := q5 3 (by omega); have a4 := q5 4 (by omega)
    simp at a1 a3 a4
    obtain ⟨n1, n2⟩ := num_one s2 t2.1 q2 q3
    have b1 := itoa_inj s1.1 t1.1 a1; have b3 := itoa_inj s3.1 t3.1 a3; have b4 := itoa_inj s4.1 t4.1 a4
    refine ⟨2, r2.length, by omega, n2, fun i => ?_⟩
    have := rowS_lin i s.dh t.dh [s.ml, s.mh] [s.dl] 0
    rw [← n1]; simp only [rowL, ← b1, ← b3, ← b4]; simpa using this
  · have a1 := q5 1 (by omega); have a2 := q5 2 (by omega); have a4 := q5 4 (by omega)
    simp at a1 a2 a4
    obtain ⟨n1, n2⟩ := num_one s3 t3.1 q2 q3
    have b1 := itoa_inj s1.1 t1.1 a1; have b2 := itoa_inj s2.1 t2.1 a2; have b4 := itoa_inj s4.1 t4.1 a4
    refine ⟨3, r2.length, by omega, n2, fun i => ?_⟩
    have := rowS_lin i s.ml t.ml [s.mh] [s.dl, s.dh] 0
    rw [← n1]; simp only [rowL, ← b1, ← b2, ← b4]; simpa using this
  · have a1 := q5 1 (by omega); have a2 := q5 2 (by omega); have a3 := q5 3 (by omega)
    simp at a1 a2 a3
    obtain ⟨n1, n2⟩ := num_one ⟨s4.1, s4.2⟩ t4.1 q2 q3
    have b1 := itoa_inj s1.1 t1.1 a1; have b2 := itoa_inj s2.1 t2.1 a2; have b3 := itoa_inj s3.1 t3.1 a3
    refine ⟨4, r2.length, by omega, n2, fun i => ?_⟩
    have := rowS_lin i s.mh t.mh [] [s.dl, s.dh, s.ml] 0
    rw [← n1]; simp only [rowL, ← b1, ← b2, ← b3]; simpa using this
theorem no97 {k m e : Nat} {d : Int} (hk : k ≤ 3) (hm : 1 ≤ m ∧ m ≤ 4) (he : e ≤ 2) (hd : -9 ≤ d ∧ d ≤ 9 ∧ d ≠ 0) : (((k : Int) + 2) * m * (d * 10 ^ e)) % 97 ≠ 0 := by
  have hk' : k = 0 ∨ k = 1 ∨ k = 2 ∨ k = 3 := by omega
  have hm' : m = 1 ∨ m = 2 ∨ m = 3 ∨ m = 4 := by omega
  have he' : e = 0 ∨ e = 1 ∨ e = 2 := by omega
  rcases hk' with rfl | rfl | rfl | rfl <;> rcases hm' with rfl | rfl | rfl | rfl <;> rcases he' with rfl | rfl | rfl <;> simp only [Int.pow_zero, Int.pow_succ] <;> omega
end Go.Proofs
namespace Go.Proofs
open Go.RowKit Go.Shelf Gas

theorem line_inj {s t : St} (hs : stLow s) (ht : stLow t) (h : lineS s = lineS t) : s = t := by
  have := line_good hs
  rw [h, line_good ht] at this
  exact (Option.some.inj this).symm
theorem lines_inj : ∀ {ss tt : List St}, (∀ s ∈ ss, stLow s) → (∀ s ∈ tt, stLow s) → ss.map lineS = tt.map lineS → ss = tt
  | [], [], _, _, _ => rfl
  | [], t :: tt, _, _, h => by simp at h
  | s :: ss, [], _, _, h => by simp at h
  | s :: ss, t :: tt, hs, ht, h => by
    simp only [List.map_cons, List.cons.injEq] at h
    rw [line_inj (hs s (List.mem_cons_self ..)) (ht t (List.mem_cons_self ..)) h.1, lines_inj (fun y hy => hs y (List.mem_cons_of_mem _ hy)) (fun y hy => ht y (List.mem_cons_of_mem _ hy)) h.2]
theorem slip_at (ss : List St) (j : Nat) : (headS ss :: (ss.map lineS ++ [endS ss, []]))[j + 1]? = if j < ss.length then (ss[j]?).map lineS else if j = ss.length then some (endS ss) else if j = ss.length + 1 then some [] else none := by
  rw [List.getElem?_cons_succ]
  by_cases h : j < ss.length
  · rw [if_pos h, List.getElem?_append_left (by simpa using h), List.getElem?_map]
  · rw [if_neg h, List.getElem?_append_right (by simp; omega), List.length_map]
    by_cases h2 : j = ss.length
    · subst h2; simp
    · rw [if_neg h2]
      by_cases h3 : j = ss.length + 1
      · rw [if_pos h3, h3, show ss.length + 1 - ss.length = 1 by omega]; rfl
      · rw [if_neg h3, List.getElem?_eq_none (by simp; omega)]
theorem end_chk {ss tt : List St} (h : endS ss = endS tt) : chkL (rowsOf ss) = chkL (rowsOf tt) := by
  unfold endS at h
  exact List.append_cancel_left h
theorem digB_ne {x : UInt8} (hx : digB x = true) {c : UInt8} (hc : digB c = false) : x ≠ c := by
  rintro rfl; rw [hc] at hx; cases hx
/-- What is read of a slip of which one digit was changed: nothing. -/
theorem spoilt_none {dive : List St} (hd : diveB dive 0 = true) {a b : List UInt8} {x y : UInt8} (hx : digB x = true) (hy : digB y = true) (hxy : x ≠ y) (h : slipL dive = a ++ x :: b) : toldF (a ++ y :: b) = none := by
  cases ht : toldF (a ++ y :: b) with
  | none => rfl
  | some tt =>
    exfalso
    obtain ⟨hs', hl'⟩ := told_low ht
    have hl := dive_low hd
    have hn := dive_len hd
    obtain ⟨pre, l, r, post, e1, e2⟩ := pieces_one (digB_ne hx (c := 10) (by decide)) (digB_ne hy (c := 10) (by decide)) b a
    rw [← h, slip_pieces hl] at e1
    rw [← hs', slip_pieces hl'] at e2
    obtain ⟨q1, q2, q3, q4, q5⟩ := one_place e1 e2
    have hlen : dive.length = tt.length := by simpa using q1
    obtain ⟨p, hp⟩ : ∃ p, p = pre.length := ⟨_, rfl⟩
    rw [← hp] at q2 q3 q4 q5
    match p with
    | 0 =>
      simp only [List.getElem?_cons_zero, Option.some.injEq, headS, hlen] at q2 q3
      exact hxy (one_ne (q2.symm.trans q3))
    | k + 1 =>
      rw [slip_at] at q2
      rw [slip_at, ← hlen] at q3
      have q6 : ∀ j, j ≠ k → (if j < dive.length then (dive[j]?).map lineS else if j = dive.length then some (endS dive) else if j = dive.length + 1 then some [] else none) = (if j < dive.length then (tt[j]?).map lineS else if j = dive.length then some (endS tt) else if j = dive.length + 1 then some [] else none) := fun j hj => by
        have := q5 (j + 1) (by omega)
        rw [slip_at, slip_at, ← hlen] at this
        exact this
      have q7 : ∀ j, j < dive.length → j ≠ k → dive[j]? = tt[j]? := fun j hj hjk => by
        have := q6 j hjk
        rw [if_pos hj, if_pos hj] at this
        rw [List.getElem?_eq_getElem hj, List.getElem?_eq_getElem (by omega : j < tt.length)] at this ⊢
        simp only [Option.map_some, Option.some.injEq] at this
        rw [line_inj (hl _ (List.getElem_mem _)) (hl' _ (List.getElem_mem _)) this]
      by_cases hk : k < dive.length
      · rw [if_pos hk, List.getElem?_eq_getElem hk] at q2
        rw [if_pos hk, List.getElem?_eq_getElem (by omega : k < tt.length)] at q3
        simp only [Option.map_some, Option.some.injEq] at q2 q3
        obtain ⟨m, e, hm, he, hrow⟩ := line_one (hl _ (List.getElem_mem hk)) (hl' _ (List.getElem_mem (by omega))) hx hy hxy q2 q3
        have hend := q6 dive.length (by omega)
        rw [if_neg (by omega), if_pos rfl, if_neg (by omega), if_pos rfl] at hend
        have hchk := chk_inj (end_chk (Option.some.inj hend))
        have d1 : dive = dive.take k ++ dive[k] :: dive.drop (k + 1) := (List.take_append_drop k dive).symm.trans (by rw [List.drop_eq_getElem_cons hk])
        have d2 : tt = dive.take k ++ tt[k] :: dive.drop (k + 1) := by
          apply List.ext_getElem?
          intro j
          rw [at_one, List.length_take, Nat.min_eq_left (by omega)]
          by_cases h1 : j < k
          · rw [if_pos h1, List.getElem?_take, if_pos h1, q7 j (by omega) (by omega)]
          · rw [if_neg h1]
            by_cases h2 : j = k
            · rw [if_pos h2, h2, List.getElem?_eq_getElem]
            · rw [if_neg h2, List.getElem?_drop, show k + 1 + (j - k - 1) = j by omega]
              by_cases h3 : j < dive.length
              · exact (q7 j h3 h2).symm
              · rw [List.getElem?_eq_none (by omega), List.getElem?_eq_none (by omega)]
        have m1 : dive.map rowL = (dive.take k).map rowL ++ rowL dive[k] :: (dive.drop (k + 1)).map rowL := by
          conv => lhs; rw [d1]
          rw [List.map_append, List.map_cons]
        have m2 : tt.map rowL = (dive.take k).map rowL ++ rowL tt[k] :: (dive.drop (k + 1)).map rowL := by
          conv => lhs; rw [d2]
          rw [List.map_append, List.map_cons]
        have r1 : rowsOf dive = ([(dive.length : Int)] :: (dive.take k).map rowL) ++ rowL dive[k] :: (dive.drop (k + 1)).map rowL := by
          show [(dive.length : Int)] :: dive.map rowL = _
          rw [m1]; rfl
        have r2 : rowsOf tt = ([(dive.length : Int)] :: (dive.take k).map rowL) ++ rowL tt[k] :: (dive.drop (k + 1)).map rowL := by
          show [(tt.length : Int)] :: tt.map rowL = _
          rw [m2, show (tt.length : Int) = dive.length by omega]; rfl
        have ht2 := totS_at (rowL dive[k]) (rowL tt[k]) ((dive.drop (k + 1)).map rowL) ([(dive.length : Int)] :: (dive.take k).map rowL) 0
        rw [← r1, ← r2, hrow] at ht2
        have hll : (([(dive.length : Int)] :: (dive.take k).map rowL).length : Int) = (k : Int) + 1 := by simp; omega
        rw [hll, show (0 : Int) + (k + 1) + 1 = (k : Int) + 2 by omega] at ht2
        have hxd := hx; have hyd := hy
        simp only [digB, decide_eq_true_eq] at hxd hyd
        have hne : (x.toNat : Int) ≠ y.toNat := fun e => hxy (UInt8.toNat.inj (by omega))
        have := no97 (k := k) (m := m) (e := e) (d := (x.toNat : Int) - y.toNat) (by omega) hm he (by omega)
        rw [← ht2] at this
        omega
      · rw [if_neg hk] at q2 q3
        have heq : dive = tt := by
          apply List.ext_getElem?
          intro j
          by_cases h3 : j < dive.length
          · exact q7 j h3 (by omega)
          · rw [List.getElem?_eq_none (by omega), List.getElem?_eq_none (by omega)]
        rw [← heq] at q3
        exact hxy (one_ne (Option.some.inj (q2.symm.trans q3)))
end Go.Proofs
namespace Go.Proofs
open Go.RowKit Go.Shelf Gas
attribute [local go_sem ↓] Go.wp_at_zero Go.wp_at_succ

theorem spoil_world (text : List UInt8) (k : Nat) (hk : k < text.length) (y : UInt8) : ∃ (CW : World → World) (cp : World → Nat),
    (∀ W, (convert 9 74 (.string (bs text))).run Tryz.prog W = .ok (.slice (some ⟨W.heap.size, 0, none⟩) text.length (cp W)) (CW W)) ∧
    (∀ W, Below W.heap.size W (CW W)) ∧ (∀ W, (CW W).cell? ⟨W.heap.size, k, none⟩ = some (.int .u8 (text[k].toNat : Int))) ∧ (∀ W, (CW W).frozen? ⟨W.heap.size, k, none⟩ = false) ∧
    (∀ W, (convert 74 9 (.slice (some ⟨W.heap.size, 0, none⟩) text.length (cp W))).run Tryz.prog ((CW W).setCell ⟨W.heap.size, k, none⟩ (.int .u8 (y.toNat : Int))) = .ok (.string (bs (text.take k ++ y :: text.drop (k + 1)))) ((CW W).setCell ⟨W.heap.size, k, none⟩ (.int .u8 (y.toNat : Int)))) := by
  have hsz := bs_size text
  have hrow : ∀ (cap j : Nat) (hj : j < text.length), (bytesRow (bs text) cap)[j]? = some (.int .u8 (text[j].toNat : Int)) := fun cap j hj => by
    have hj' : j < (bs text).data.size := by rw [← hsz] at hj; exact hj
    rw [bytesRow_at (bs text) cap j hj']; rfl
  have hlen : ∀ cap, text.length ≤ (bytesRow (bs text) cap).size := fun cap => by
    unfold bytesRow; simp only [Array.size_append, Array.size_map, bs, List.size_toArray]; omega
  obtain ⟨R, hR⟩ : ∃ R : World → Array Value, R = fun W => bytesRow (bs text) (grownCap W (bs text).size 0 5) := ⟨_, rfl⟩
  obtain ⟨CW, hCW⟩ : ∃ CW : World → World, CW = fun W => W.drew.alloc (.cells (R W) 5 ((R W).size, (R W).size + 1)) := ⟨_, rfl⟩
  have hheap : ∀ W : World, (CW W).heap[W.heap.size]? = some (.cells (R W) 5 ((R W).size, (R W).size + 1)) := fun W => by
    rw [hCW]
    show (W.heap.push _)[W.heap.size]? = _
    simp
  have hcell : ∀ (W : World) (j : Nat) (hj : j < text.length), (CW W).cell? ⟨W.heap.size, j, none⟩ = some (.int .u8 (text[j].toNat : Int)) := fun W j hj => by
    have h1 := hrow (grownCap W (bs text).size 0 5) j hj
    unfold World.cell?
    rw [hheap W, hR]
    exact h1
  refine ⟨CW, fun W => grownCap W (bs text).size 0 5, fun W => ?_, fun W => ?_, fun W => hcell W k hk, fun W => ?_, fun W => ?_⟩
  · rw [← hsz, hCW, hR]; exact run_bytes_of_string W 9 74 5 (bs text) Tryz.underlying9 Tryz.underlying74 Tryz.underlying5
  · rw [hCW]
    refine ⟨rfl, rfl, rfl, ?_, fun j hj => ?_⟩
    · show W.heap.size ≤ (W.heap.push _).size
      simp
    · show (W.heap.push _)[j]? = W.heap[j]?
      rw [Array.getElem?_push, if_neg (by omega)]
  · unfold World.frozen?
    rw [hheap W]
    have := hlen (grownCap W (bs text).size 0 5)
    rw [hR]
    simp; omega
  · have hl : (text.take k ++ y :: text.drop (k + 1)).length = text.length := by simp; omega
    have := run_convert_bytes_back (P := Tryz.prog) ((CW W).setCell ⟨W.heap.size, k, none⟩ (.int .u8 (y.toNat : Int))) 74 9 5 ⟨W.heap.size, 0, none⟩ (grownCap W (bs text).size 0 5) (text.take k ++ y :: text.drop (k + 1)) Tryz.underlying74 Tryz.underlying5 Tryz.underlying9 (fun j hj => by
      have ha : (⟨W.heap.size, 0, none⟩ : Addr).add j = ⟨W.heap.size, j, none⟩ := by unfold Addr.add; split <;> simp_all
      rw [ha]
      have hjt : j < text.length := by omega
      by_cases hjk : j = k
      · subst hjk
        rw [World.cell?_setCell_same _ _ _ (hcell W j hjt)]
        simp [List.getElem_append_right, Nat.min_eq_left (by omega : j ≤ text.length)]
      · rw [World.cell?_setCell_other _ _ _ _ (by intro e; simp at e; try omega), hcell W j hjt]
        have : (text.take k ++ y :: text.drop (k + 1))[j]? = text[j]? := by
          rw [at_one, List.length_take, Nat.min_eq_left (by omega), if_neg hjk]
          by_cases h1 : j < k
          · rw [if_pos h1, List.getElem?_take, if_pos h1]
          · rw [if_neg h1, List.getElem?_drop, show k + 1 + (j - k - 1) = j by omega]
        rw [List.getElem?_eq_getElem hj, List.getElem?_eq_getElem hjt] at this
        rw [Option.some.inj this])
    rw [hl] at this
    exact this
end Go.Proofs
namespace Go.Proofs
open Go.RowKit Go.Shelf Gas
attribute [local go_sem ↓] Go.wp_at_zero Go.wp_at_succ

set_option maxHeartbeats 2000000 in
set_option maxRecDepth 20000 in
theorem gasSpoilt_walk (A : Option Addr) (n c : Nat) (dive : List St) (p q : Int) (w : World) (hd : SlOf St.cs 4 w A n dive) (htab : Lib.TabIs Tryz.prog w "internal/strconv.uint64pow10" .u64 Lib.pow10Tab) :
    Calls Tryz.prog 11 #[.slice A n c, .int .i64 p, .int .i64 q] w fun e w' => e = .returned (.bool true) ∧ Below w.heap.size w w' := by
  obtain rfl := hd.1
  by_cases h7 : 7 < dive.length
  · have z1 : (7 : Int) < (dive.length : Int) := by omega
    clear htab hd
    go_enter Tryz.func11, Tryz.ntmps11
    go_wp2_with (first
      | (go_at_call 15; refine (knownLaw_c _).mono ?_; rintro e w15 ⟨rfl, hb⟩; have HB := Lib.hid (hb); clear hb))
    exact bodyPost_ret (results_tmp rfl _ _ _) rfl ⟨rfl, HB.out⟩
  · have z1 : ¬ (7 : Int) < (dive.length : Int) := by omega
    have HDv := Lib.hid fun (W : World) (hb : Below w.heap.size w W) => refDive_c A dive.length c dive (by omega) W (hd.keep hb)
    cases hdb : diveB dive 0 with
    | false =>
      rw [hdb] at HDv
      clear htab hd hdb
      go_enter Tryz.func11, Tryz.ntmps11
      go_wp2_with (first
        | (go_at_call 26; refine (HDv.out _ (Below.refl _ _)).mono ?_; rintro e w2 ⟨rfl, hb⟩; have B2 := Lib.hid hb; clear hb)
        | (go_at_call 15; refine (knownLaw_c _).mono ?_; rintro e w15 ⟨rfl, hb⟩; have HB := Lib.hid (nextB B2.out hb); clear hb))
      exact bodyPost_ret (results_tmp rfl _ _ _) rfl ⟨rfl, HB.out⟩
    | true =>
      rw [hdb] at HDv
      by_cases q0 : q < 0
      · -- a digit below none
        clear htab hd hdb
        go_enter Tryz.func11, Tryz.ntmps11
        go_wp2_with (first
          | (go_at_call 26; refine (HDv.out _ (Below.refl _ _)).mono ?_; rintro e w2 ⟨rfl, hb⟩; have B2 := Lib.hid hb; clear hb)
          | (go_at_call 15; refine (knownLaw_c _).mono ?_; rintro e w15 ⟨rfl, hb⟩; have HB := Lib.hid (nextB B2.out hb); clear hb))
        exact bodyPost_ret (results_tmp rfl _ _ _) rfl ⟨rfl, HB.out⟩
      · by_cases q9 : q > 9
        · -- a digit beyond nine
          clear htab hd hdb
          go_enter Tryz.func11, Tryz.ntmps11
          go_wp2_with (first
            | (go_at_call 26; refine (HDv.out _ (Below.refl _ _)).mono ?_; rintro e w2 ⟨rfl, hb⟩; have B2 := Lib.hid hb; clear hb)
            | (go_at_call 15; refine (knownLaw_c _).mono ?_; rintro e w15 ⟨rfl, hb⟩; have HB := Lib.hid (nextB B2.out hb); clear hb))
          exact bodyPost_ret (results_tmp rfl _ _ _) rfl ⟨rfl, HB.out⟩
        · have HI := Lib.hid (rows_itoa htab hdb)
          have HPr := Lib.hid fun (W : World) (hb : Below w.heap.size w W) => Print_c A dive.length c dive (by omega) W (hd.keep hb) (fun r hr x hx => (HI.out r hr x hx).keep hb)
          rw [show prnF dive = (slipL dive, 0) by simp [prnF, hdb]] at HPr
          have hsh := slip_short hdb
          have HSN := Lib.hid fun (a b : List UInt8) (x y : UInt8) => spoilt_none (a := a) (b := b) (x := x) (y := y) hdb
          have HT := Lib.hid htab
          clear HI hd htab hdb
          generalize slipL dive = text at *
          have hsz : ((bs text).size : Int) = text.length := by rw [bs_size]
          by_cases p0 : p < 0
          · -- before the slip
            clear HSN HT hsh
            go_enter Tryz.func11, Tryz.ntmps11
            go_wp2_with (first
              | (go_at_call 26; refine (HDv.out _ (Below.refl _ _)).mono ?_; rintro e w2 ⟨rfl, hb⟩; have B2 := Lib.hid hb; clear hb)
              | (go_at_call 34; refine (HPr.out _ B2.out).mono ?_; rintro e w3 ⟨rfl, hb⟩; have B3 := Lib.hid (nextB B2.out hb); clear hb)
              | (go_at_call 15; refine (knownLaw_c _).mono ?_; rintro e w15 ⟨rfl, hb⟩; have HB := Lib.hid (nextB B3.out hb); clear hb))
            exact bodyPost_ret (results_tmp rfl _ _ _) rfl ⟨rfl, HB.out⟩
          · obtain ⟨k, rfl⟩ := Int.eq_ofNat_of_zero_le (by omega : 0 ≤ p)
            by_cases hk : k < text.length
            · have zk : (k : Int) < (text.length : Int) := by omega
              have zk2 : ¬ (k : Int) ≥ (text.length : Int) := by omega
              have hki : k < (bs text).size := by rw [bs_size]; exact hk
              have hg := bs_get text k hki
              have HSp := Lib.hid (show text = text.take k ++ text[k] :: text.drop (k + 1) from (List.take_append_drop k text).symm.trans (congrArg (text.take k ++ ·) (List.drop_eq_getElem_cons hk)))
              have HCW := Lib.hid (spoil_world text k hk)
              generalize hbk : text[k]'hk = b at *
              by_cases b48 : b.toNat < 48
              · have n1 : (b.toNat : Int) < 48 := by omega
                clear HSN HT hsh HCW HSp
                go_enter Tryz.func11, Tryz.ntmps11
                go_wp2_with (first
                  | (go_at_call 26; refine (HDv.out _ (Below.refl _ _)).mono ?_; rintro e w2 ⟨rfl, hb⟩; have B2 := Lib.hid hb; clear hb)
                  | (go_at_call 34; refine (HPr.out _ B2.out).mono ?_; rintro e w3 ⟨rfl, hb⟩; have B3 := Lib.hid (nextB B2.out hb); clear hb)
                  | (go_at_call 15; refine (knownLaw_c _).mono ?_; rintro e w15 ⟨rfl, hb⟩; have HB := Lib.hid (nextB B3.out hb); clear hb))
                exact bodyPost_ret (results_tmp rfl _ _ _) rfl ⟨rfl, HB.out⟩
              · have n1 : ¬ (b.toNat : Int) < 48 := by omega
                by_cases b57 : 57 < b.toNat
                · have n2 : (b.toNat : Int) > 57 := by omega
                  clear HSN HT hsh HCW HSp
                  go_enter Tryz.func11, Tryz.ntmps11
                  go_wp2_with (first
                    | (go_at_call 26; refine (HDv.out _ (Below.refl _ _)).mono ?_; rintro e w2 ⟨rfl, hb⟩; have B2 := Lib.hid hb; clear hb)
                    | (go_at_call 34; refine (HPr.out _ B2.out).mono ?_; rintro e w3 ⟨rfl, hb⟩; have B3 := Lib.hid (nextB B2.out hb); clear hb)
                    | (go_at_call 15; refine (knownLaw_c _).mono ?_; rintro e w15 ⟨rfl, hb⟩; have HB := Lib.hid (nextB B3.out hb); clear hb))
                  exact bodyPost_ret (results_tmp rfl _ _ _) rfl ⟨rfl, HB.out⟩
                · have n2 : ¬ (b.toNat : Int) > 57 := by omega
                  have v1 : IntKind.u8.wrap ((b.toNat : Int) - 48) = (b.toNat : Int) - 48 := by rw [IntKind.wrap_u8]; omega
                  have v2 : IntKind.i64.wrap ((b.toNat : Int) - 48) = (b.toNat : Int) - 48 := wI (by omega) (by omega)
                  by_cases hbq : (b.toNat : Int) - 48 = q
                  · have n3 : ((b.toNat : Int) - 48 == q) = true := by rw [hbq]; simp
                    clear HSN HT hsh HCW HSp hbq
                    go_enter Tryz.func11, Tryz.ntmps11
                    go_wp2_with (first
                      | (go_at_call 26; refine (HDv.out _ (Below.refl _ _)).mono ?_; rintro e w2 ⟨rfl, hb⟩; have B2 := Lib.hid hb; clear hb)
                      | (go_at_call 34; refine (HPr.out _ B2.out).mono ?_; rintro e w3 ⟨rfl, hb⟩; have B3 := Lib.hid (nextB B2.out hb); clear hb)
                      | (go_at_call 15; refine (knownLaw_c _).mono ?_; rintro e w15 ⟨rfl, hb⟩; have HB := Lib.hid (nextB B3.out hb); clear hb))
                    exact bodyPost_ret (results_tmp rfl _ _ _) rfl ⟨rfl, HB.out⟩
                  · have n3 : ((b.toNat : Int) - 48 == q) = false := by rw [beq_eq_false_iff_ne]; exact hbq
                    obtain ⟨y, hy⟩ : ∃ y : UInt8, (y.toNat : Int) = 48 + q := ⟨UInt8.ofNat (48 + q).toNat, by rw [UInt8.toNat_ofNat']; omega⟩
                    obtain ⟨CW, cp, hcv, hbel, hcell, hfr, hback⟩ := HCW.out y
                    rw [hy] at hback
                    have hbd : digB b = true := by simp only [digB, decide_eq_true_eq]; omega
                    have hyd : digB y = true := by simp only [digB, decide_eq_true_eq]; omega
                    have hby : b ≠ y := by rintro rfl; omega
                    have htn := HSN.out _ _ b y hbd hyd hby HSp.out
                    have hl2 : (text.take k ++ y :: text.drop (k + 1)).length = text.length := by simp; omega
                    have HRd := Lib.hid fun (W : World) (hb : Below w.heap.size w W) => Read_c (text.take k ++ y :: text.drop (k + 1)) (by omega) W (fun x h0 h1 => (itoa_tab HT.out x h0 h1).keep hb)
                    rw [show readF (text.take k ++ y :: text.drop (k + 1)) = ([], 4) by rw [readF, htn, if_neg (by omega)]] at HRd
                    have HBel := Lib.hid hbel
                    have u1 : IntKind.i64.wrap (48 + q) = 48 + q := wI (by omega) (by omega)
                    have u2 : IntKind.u8.wrap (48 + q) = 48 + q := by rw [IntKind.wrap_u8]; omega
                    clear HSN HT hsh HCW HSp htn hl2 hby hyd hbd hbel
                    generalize text.take k ++ y :: text.drop (k + 1) = text2 at *
                    go_enter Tryz.func11, Tryz.ntmps11
                    go_wp2_with (first
                      | (go_at_call 26; refine (HDv.out _ (Below.refl _ _)).mono ?_; rintro e w2 ⟨rfl, hb⟩; have B2 := Lib.hid hb; clear hb)
                      | (go_at_call 34; refine (HPr.out _ B2.out).mono ?_; rintro e w3 ⟨rfl, hb⟩; have B3 := Lib.hid (nextB B2.out hb); clear hb)
                      | (go_at_call 35; refine (HRd.out _ (setB (nextB B3.out (HBel.out _)) (by exact B3.out.size) _)).mono ?_; rintro e w4 ⟨A4, c4, rfl, hs4, hA4, hb⟩; have B4 := Lib.hid (nextB (setB (nextB B3.out (HBel.out _)) (by exact B3.out.size) _) hb); clear hb hs4 hA4)
                      | (go_at_call 15; refine (knownLaw_c _).mono ?_; rintro e w15 ⟨rfl, hb⟩; have HB := Lib.hid (nextB B4.out hb); clear hb))
                    exact bodyPost_ret (results_tmp rfl _ _ _) rfl ⟨rfl, HB.out⟩
            · have zk : (k : Int) ≥ (text.length : Int) := by omega
              clear HSN HT hsh
              go_enter Tryz.func11, Tryz.ntmps11
              go_wp2_with (first
                | (go_at_call 26; refine (HDv.out _ (Below.refl _ _)).mono ?_; rintro e w2 ⟨rfl, hb⟩; have B2 := Lib.hid hb; clear hb)
                | (go_at_call 34; refine (HPr.out _ B2.out).mono ?_; rintro e w3 ⟨rfl, hb⟩; have B3 := Lib.hid (nextB B2.out hb); clear hb)
                | (go_at_call 15; refine (knownLaw_c _).mono ?_; rintro e w15 ⟨rfl, hb⟩; have HB := Lib.hid (nextB B3.out hb); clear hb))
              exact bodyPost_ret (results_tmp rfl _ _ _) rfl ⟨rfl, HB.out⟩
end Go.Proofs
