/-
  Contracts of strings.Split, of the reading of numbers, stages and slips, hold at every text of at most 300 bytes, where strconv writes the numbers up to 1000.
-/
import Derived.Shelf.Strings.Search3
import Derived.Shelf.Strings.Count
import Derived.Shelf.LaysM
import Derived.Shelf.Strconv.Itoa3
import Derived.Test.YtahochgbkhpefabGreatDoorProg
import Derived.Test.YtahochgbkhpefabGreatDoorP8
import Derived.Laws.RangeString
import Derived.Defers
import Derived.Recover
import Derived.Test.YtahochgbkhpefabGreatDoorP12
namespace Go.Proofs
open Go.Shelf Go.RowKit Go.Sort Go.Lib
def Tryz.lays143_ren : Go.Shelf.Ren := ⟨fun | 143 => 142 | 219 => 149 | 217 => 156 | 225 => 157 | 224 => 158 | 267 => 159 | 266 => 165 | 314 => 166 | n => n, fun | 9 => 9 | 3 => 3 | 4 => 4 | 5 => 5 | 46 => 209 | 146 => 219 | 51 => 212 | n => n, fun | 1 => 0 | n => n⟩
theorem Tryz.lays143 : Go.Proofs.Lays.n143 Tryz.prog Tryz.lays143_ren := {
  mixed := by kernel_rfl
  f143 := Tryz.func142.trans (congrArg some (by kernel_rfl))
  f217 := Tryz.func156.trans (congrArg some (by kernel_rfl))
  f219 := Tryz.func149.trans (congrArg some (by kernel_rfl))
  f224 := Tryz.func158.trans (congrArg some (by kernel_rfl))
  f225 := Tryz.func157.trans (congrArg some (by kernel_rfl))
  f266 := Tryz.func165.trans (congrArg some (by kernel_rfl))
  f267 := Tryz.func159.trans (congrArg some (by kernel_rfl))
  f314 := Tryz.func166.trans (congrArg some (by kernel_rfl))
  t3 := Tryz.underlying3
  a3 := Tryz.isAgg3
  z3 := Tryz.sizeOf3
  v3 := Tryz.zeroValue3
  t4 := Tryz.underlying4
  a4 := Tryz.isAgg4
  z4 := Tryz.sizeOf4
  v4 := Tryz.zeroValue4
  t5 := Tryz.underlying5
  a5 := Tryz.isAgg5
  z5 := Tryz.sizeOf5
  v5 := Tryz.zeroValue5
  t9 := Tryz.underlying9
  a9 := Tryz.isAgg9
  z9 := Tryz.sizeOf9
  v9 := Tryz.zeroValue9
  t46 := Tryz.underlying209
  a46 := Tryz.isAgg209
  z46 := Tryz.sizeOf209
  v46 := Tryz.zeroValue209
  t51 := Tryz.underlying212
  a51 := Tryz.isAgg212
  z51 := Tryz.sizeOf212
  v51 := Tryz.zeroValue212
  t146 := Tryz.underlying219
  a146 := Tryz.isAgg219
  z146 := Tryz.sizeOf219
  v146 := Tryz.zeroValue219
  g1 := by kernel_rfl }
theorem Tryz.strings_Index_one (s : ByteArray) (c : UInt8) (w : World) :
    Calls Tryz.prog 142 #[.string s, .string ⟨#[c]⟩] w fun e w' => e = .returned (.int .i64 (Lib.indexByte s.data.toList c)) ∧ w' = w := Any.strings_Index_one Tryz.lays143 s c w
def Tryz.lays138_ren : Go.Shelf.Ren := ⟨fun | 138 => 141 | 195 => 146 | 218 => 148 | 143 => 142 | 219 => 149 | 217 => 156 | 225 => 157 | 224 => 158 | 267 => 159 | 266 => 165 | 314 => 166 | n => n, fun | 9 => 9 | 3 => 3 | 4 => 4 | 5 => 5 | 0 => 0 | 46 => 209 | 146 => 219 | 51 => 212 | n => n, fun | 1 => 0 | n => n⟩
theorem Tryz.lays138 : Go.Proofs.Lays.n138 Tryz.prog Tryz.lays138_ren := {
  mixed := by kernel_rfl
  f138 := Tryz.func141.trans (congrArg some (by kernel_rfl))
  f143 := Tryz.func142.trans (congrArg some (by kernel_rfl))
  f195 := Tryz.func146.trans (congrArg some (by kernel_rfl))
  f217 := Tryz.func156.trans (congrArg some (by kernel_rfl))
  f218 := Tryz.func148.trans (congrArg some (by kernel_rfl))
  f219 := Tryz.func149.trans (congrArg some (by kernel_rfl))
  f224 := Tryz.func158.trans (congrArg some (by kernel_rfl))
  f225 := Tryz.func157.trans (congrArg some (by kernel_rfl))
  f266 := Tryz.func165.trans (congrArg some (by kernel_rfl))
  f267 := Tryz.func159.trans (congrArg some (by kernel_rfl))
  f314 := Tryz.func166.trans (congrArg some (by kernel_rfl))
  t0 := Tryz.underlying0
  a0 := Tryz.isAgg0
  z0 := Tryz.sizeOf0
  v0 := Tryz.zeroValue0
  t3 := Tryz.underlying3
  a3 := Tryz.isAgg3
  z3 := Tryz.sizeOf3
  v3 := Tryz.zeroValue3
  t4 := Tryz.underlying4
  a4 := Tryz.isAgg4
  z4 := Tryz.sizeOf4
  v4 := Tryz.zeroValue4
  t5 := Tryz.underlying5
  a5 := Tryz.isAgg5
  z5 := Tryz.sizeOf5
  v5 := Tryz.zeroValue5
  t9 := Tryz.underlying9
  a9 := Tryz.isAgg9
  z9 := Tryz.sizeOf9
  v9 := Tryz.zeroValue9
  t46 := Tryz.underlying209
  a46 := Tryz.isAgg209
  z46 := Tryz.sizeOf209
  v46 := Tryz.zeroValue209
  t51 := Tryz.underlying212
  a51 := Tryz.isAgg212
  z51 := Tryz.sizeOf212
  v51 := Tryz.zeroValue212
  t146 := Tryz.underlying219
  a146 := Tryz.isAgg219
  z146 := Tryz.sizeOf219
  v146 := Tryz.zeroValue219
  g1 := by kernel_rfl }
theorem Tryz.strings_Count_one (s : ByteArray) (c : UInt8) (w : World) :
    Calls Tryz.prog 141 #[.string s, .string ⟨#[c]⟩] w fun e w' => e = .returned (.int .i64 (Lib.countByte s.data.toList c)) ∧ w' = w := Any.strings_Count_one Tryz.lays138 s c w
def Tryz.laysM171_ren : Go.Shelf.Ren := ⟨fun | 171 => 130 | 243 => 138 | 246 => 144 | 283 => 150 | 284 => 151 | 285 => 152 | 286 => 153 | 129 => 161 | 317 => 160 | 318 => 162 | 319 => 163 | 320 => 164 | 337 => 167 | 338 => 168 | n => n, fun | 3 => 3 | 9 => 9 | 2 => 2 | 4 => 4 | 171 => 202 | 0 => 0 | 53 => 203 | 37 => 74 | 5 => 5 | 173 => 206 | 212 => 211 | 51 => 212 | 20 => 20 | 213 => 213 | 46 => 209 | 232 => 222 | 233 => 223 | n => n, fun | 17 => 1 | 18 => 4 | 19 => 5 | n => n⟩
theorem Tryz.laysM171 : Go.Proofs.LaysM.n171 Tryz.prog Tryz.laysM171_ren := {
  mixed := by kernel_rfl
  f129 := Tryz.func161.trans (congrArg some (by kernel_rfl))
  f171 := Tryz.func130.trans (congrArg some (by kernel_rfl))
  f243 := Tryz.func138.trans (congrArg some (by kernel_rfl))
  f246 := Tryz.func144.trans (congrArg some (by kernel_rfl))
  f283 := Tryz.func150.trans (congrArg some (by kernel_rfl))
  f284 := Tryz.func151.trans (congrArg some (by kernel_rfl))
  f285 := Tryz.func152.trans (congrArg some (by kernel_rfl))
  f286 := Tryz.func153.trans (congrArg some (by kernel_rfl))
  f317 := Tryz.func160.trans (congrArg some (by kernel_rfl))
  f318 := Tryz.func162.trans (congrArg some (by kernel_rfl))
  f319 := Tryz.func163.trans (congrArg some (by kernel_rfl))
  f320 := Tryz.func164.trans (congrArg some (by kernel_rfl))
  f337 := Tryz.func167.trans (congrArg some (by kernel_rfl))
  f338 := Tryz.func168.trans (congrArg some (by kernel_rfl))
  t0 := Tryz.underlying0
  a0 := Tryz.isAgg0
  z0 := Tryz.sizeOf0
  v0 := Tryz.zeroValue0
  t2 := Tryz.underlying2
  a2 := Tryz.isAgg2
  z2 := Tryz.sizeOf2
  v2 := Tryz.zeroValue2
  t3 := Tryz.underlying3
  a3 := Tryz.isAgg3
  z3 := Tryz.sizeOf3
  v3 := Tryz.zeroValue3
  t4 := Tryz.underlying4
  a4 := Tryz.isAgg4
  z4 := Tryz.sizeOf4
  v4 := Tryz.zeroValue4
  t5 := Tryz.underlying5
  a5 := Tryz.isAgg5
  z5 := Tryz.sizeOf5
  v5 := Tryz.zeroValue5
  t9 := Tryz.underlying9
  a9 := Tryz.isAgg9
  z9 := Tryz.sizeOf9
  v9 := Tryz.zeroValue9
  t20 := Tryz.underlying20
  a20 := Tryz.isAgg20
  z20 := Tryz.sizeOf20
  v20 := Tryz.zeroValue20
  t37 := Tryz.underlying74
  a37 := Tryz.isAgg74
  z37 := Tryz.sizeOf74
  v37 := Tryz.zeroValue74
  t46 := Tryz.underlying209
  a46 := Tryz.isAgg209
  z46 := Tryz.sizeOf209
  v46 := Tryz.zeroValue209
  t51 := Tryz.underlying212
  a51 := Tryz.isAgg212
  z51 := Tryz.sizeOf212
  v51 := Tryz.zeroValue212
  t53 := Tryz.underlying203
  a53 := Tryz.isAgg203
  z53 := Tryz.sizeOf203
  v53 := Tryz.zeroValue203
  t171 := Tryz.underlying202
  a171 := Tryz.isAgg202
  z171 := Tryz.sizeOf202
  v171 := Tryz.zeroValue202
  t173 := Tryz.underlying206
  a173 := Tryz.isAgg206
  z173 := Tryz.sizeOf206
  v173 := Tryz.zeroValue206
  t212 := Tryz.underlying211
  a212 := Tryz.isAgg211
  z212 := Tryz.sizeOf211
  v212 := Tryz.zeroValue211
  t213 := Tryz.underlying213
  a213 := Tryz.isAgg213
  z213 := Tryz.sizeOf213
  t232 := Tryz.underlying222
  a232 := Tryz.isAgg222
  z232 := Tryz.sizeOf222
  v232 := Tryz.zeroValue222
  t233 := Tryz.underlying223
  a233 := Tryz.isAgg223
  z233 := Tryz.sizeOf223
  v233 := Tryz.zeroValue223
  g17 := by kernel_rfl
  g18 := by kernel_rfl
  g19 := by kernel_rfl
  i0 := by kernel_rfl
  i2 := by kernel_rfl
  i3 := by kernel_rfl
  i4 := by kernel_rfl
  i5 := by kernel_rfl
  i9 := by kernel_rfl
  i20 := by kernel_rfl
  i37 := by kernel_rfl
  i46 := by kernel_rfl
  i51 := by kernel_rfl
  i53 := by kernel_rfl
  i171 := by kernel_rfl
  i173 := by kernel_rfl
  i212 := by kernel_rfl
  i232 := by kernel_rfl
  i233 := by kernel_rfl
  m17 := by kernel_rfl
  m18 := by kernel_rfl
  m19 := by kernel_rfl }
theorem Tryz.strconv_Itoa (n : Int) (h0 : -9223372036854775808 ≤ n) (h1 : n ≤ 9223372036854775807) (w : World) (htab : Lib.TabIs Tryz.prog w "internal/strconv.uint64pow10" .u64 Lib.pow10Tab) :
    Calls Tryz.prog 130 #[.int .i64 n] w fun e w' => e = .returned (.string ⟨(Lib.itoa n).toArray⟩) ∧ ∃ k os, w' = grow (w.drewN k) os := Any.strconv_Itoa Tryz.laysM171 n h0 h1 w htab
end Go.Proofs
namespace Go.Proofs
open Go.RowKit Go.Shelf Gas
attribute [local go_sem ↓] Go.wp_at_zero Go.wp_at_succ

/-- The parts of a text between bytes c. -/
def pieces (c : UInt8) : List UInt8 → List (List UInt8)
  | [] => [[]]
  | x :: r => if x == c then [] :: pieces c r else match pieces c r with | p :: ps => (x :: p) :: ps | [] => [[x]]
theorem pieces_ne (c : UInt8) : ∀ s, pieces c s ≠ []
  | [] => by simp [pieces]
  | x :: r => by
    simp only [pieces]
    split
    · simp
    · split <;> simp
theorem pieces_len (c : UInt8) : ∀ s, (pieces c s).length = Lib.countByte s c + 1
  | [] => rfl
  | x :: r => by
    have ih := pieces_len c r
    simp only [pieces, Lib.countByte, List.count_cons] at ih ⊢
    by_cases h : (x == c) = true
    · simp [h, ih]
    · rw [if_neg h, if_neg h]
      cases hp : pieces c r with
      | nil => exact absurd hp (pieces_ne c r)
      | cons p ps => rw [hp] at ih; simpa using ih
theorem pieces_at (c : UInt8) : ∀ (s : List UInt8) (m : Nat), Lib.indexByte s c = m → pieces c s = s.take m :: pieces c (s.drop (m + 1))
  | [], m, h => by simp [Lib.indexByte] at h
  | x :: r, m, h => by
    unfold Lib.indexByte at h
    by_cases hx : (x == c) = true
    · rw [if_pos hx] at h
      obtain rfl : m = 0 := by omega
      simp [pieces, hx]
    · rw [if_neg hx] at h
      split at h
      · omega
      · have hge := Lib.indexByte_ge r c
        rename_i hl
        have hne : Lib.indexByte r c ≠ -1 := fun e => hl (beq_iff_eq.2 e)
        obtain ⟨m', rfl⟩ : ∃ m', m = m' + 1 := ⟨m - 1, by omega⟩
        have ih := pieces_at c r m' (by push_cast at h; omega)
        simp only [pieces, hx, Bool.false_eq_true, if_false, ih, List.take_succ_cons, List.drop_succ_cons]
theorem pieces_none (c : UInt8) : ∀ (s : List UInt8), Lib.indexByte s c = -1 → pieces c s = [s]
  | [], _ => rfl
  | x :: r, h => by
    unfold Lib.indexByte at h
    by_cases hx : (x == c) = true
    · rw [if_pos hx] at h; omega
    · rw [if_neg hx] at h
      split at h
      · rename_i hl
        rw [pieces, if_neg hx, pieces_none c r (beq_iff_eq.1 hl)]
      · have := Lib.indexByte_ge r c
        omega
theorem index_lt {s : List UInt8} {c : UInt8} {m : Nat} (h : Lib.indexByte s c = m) : m < s.length := (List.getElem?_eq_some_iff.1 (Lib.indexByte_some h).1).1
theorem pieces_bd (c : UInt8) (s : List UInt8) : Lib.countByte s c ≤ s.length := List.count_le_length
theorem bs_take (l : List UInt8) (m : Nat) : (bs l).extract 0 m = bs (l.take m) := by
  apply ByteArray.ext
  simp [bs, ByteArray.data_extract]
theorem bs_drop (l : List UInt8) (m : Nat) : (bs l).extract m (bs l).size = bs (l.drop m) := by
  apply ByteArray.ext
  rw [bs_size]
  simp [bs, ByteArray.data_extract, List.take_of_length_le]
theorem count_drop {c : UInt8} {s : List UInt8} {m : Nat} (h : Lib.indexByte s c = m) : Lib.countByte s c = Lib.countByte (s.drop (m + 1)) c + 1 := by
  have h1 := pieces_len c s
  rw [pieces_at c s m h, List.length_cons, pieces_len] at h1
  omega
theorem count_pos {c : UInt8} {s : List UInt8} (h : 0 < Lib.countByte s c) : ∃ m : Nat, Lib.indexByte s c = m := by
  have hge := Lib.indexByte_ge s c
  by_cases hn : Lib.indexByte s c = -1
  · have h1 := pieces_len c s
    rw [pieces_none c s hn] at h1
    simp at h1; omega
  · exact ⟨(Lib.indexByte s c).toNat, by omega⟩
theorem count_zero {c : UInt8} {s : List UInt8} (h : Lib.countByte s c = 0) : pieces c s = [s] := by
  have hge := Lib.indexByte_ge s c
  by_cases hn : Lib.indexByte s c = -1
  · exact pieces_none c s hn
  · have := count_drop (c := c) (s := s) (m := (Lib.indexByte s c).toNat) (by omega)
    omega
theorem make133 (n : Nat) (hn : n ≤ 1000000) (w : World) : (Instr.makeSlice 133 (.int .i64 (n : Int)) (.int .i64 (n : Int))).run Tryz.prog w = .ok (.slice (some ⟨w.heap.size, 0, none⟩) n n) (w.alloc (.cells (madeCells #[.string (bs [])] (n * 1)) 9)) := by
  obtain ⟨i, hi, hz, hb, hs⟩ := info9
  have := run_make (P := Tryz.prog) w 133 9 i _ (by kernel_rfl) hi hz .i64 .i64 n n (by omega) (by omega) (by rw [hb]; omega) (by omega)
  simp only [hs, Int.toNat_natCast] at this
  exact this

/-- A row of strings of which the first ones are laid. -/
def StrRow (w : World) (g n : Nat) (xs : List (List UInt8)) : Prop := ∃ cur, Has w g 9 cur ∧ cur.size = n ∧ ∀ (j : Nat) x, xs[j]? = some x → cur[j]? = some (.string (bs x))
theorem StrRow.keep {w w' : World} {g n : Nat} {xs : List (List UInt8)} (h : StrRow w g n xs) (hb : Below w.heap.size w w') : StrRow w' g n xs := by
  obtain ⟨cur, h1, h2, h3⟩ := h
  exact ⟨cur, h1.after hb, h2, h3⟩
theorem StrRow.set {w : World} {g n : Nat} {xs : List (List UInt8)} (h : StrRow w g n xs) (hn : xs.length < n) (y : List UInt8) : StrRow (w.setCell ⟨g, xs.length, none⟩ (.string (bs y))) g n (xs ++ [y]) := by
  obtain ⟨cur, h1, h2, h3⟩ := h
  refine ⟨_, h1.set xs.length _, by simpa using h2, fun j x hx => ?_⟩
  rw [Array.getElem?_setIfInBounds]
  by_cases hj : xs.length = j
  · subst hj
    rw [List.getElem?_append_right (Nat.le_refl _)] at hx
    simp at hx; subst hx
    simp; omega
  · rw [if_neg hj]
    have hl : j < xs.length := by
      have := (List.getElem?_eq_some_iff.1 hx).1
      simp at this; omega
    rw [List.getElem?_append_left hl] at hx
    exact h3 j x hx
theorem StrRow.sl {w : World} {g n : Nat} {xs : List (List UInt8)} (h : StrRow w g n xs) (hn : xs.length = n) : SlOf strC 1 w (some ⟨g, 0, none⟩) n xs := by
  obtain ⟨cur, h1, h2, h3⟩ := h
  refine ⟨hn, by rw [flat_len strC_len, hn], fun _ => ⟨g, 0, rfl, fun j u hu => ?_⟩⟩
  rw [Nat.zero_add, h1.cell]
  rw [flat_strC, List.getElem?_map] at hu
  cases hx : xs[j]? with
  | none => rw [hx] at hu; cases hu
  | some x =>
    rw [hx] at hu
    simp at hu; subst hu
    exact h3 j x hx

set_option maxHeartbeats 2000000 in
set_option maxRecDepth 20000 in
theorem genSplit_c (c : UInt8) (s : List UInt8) (hs : s.length ≤ 100000) (w : World) :
    Calls Tryz.prog 132 #[.string (bs s), .string ⟨#[c]⟩, .int .i64 0, .int .i64 (-1)] w fun e w' => ∃ g, e = .returned (.slice (some ⟨g, 0, none⟩) (pieces c s).length (pieces c s).length) ∧ SlOf strC 1 w' (some ⟨g, 0, none⟩) (pieces c s).length (pieces c s) ∧ Below w.heap.size w w' := by
  have hpl := pieces_len c s
  have hcb := pieces_bd c s
  obtain ⟨n, hn⟩ : ∃ n, n = Lib.countByte s c := ⟨_, rfl⟩
  have hmk : ∀ W : World, (Instr.makeSlice 133 (.int .i64 ((n : Int) + 1)) (.int .i64 ((n : Int) + 1))).run Tryz.prog W = .ok (.slice (some ⟨W.heap.size, 0, none⟩) (n + 1) (n + 1)) (W.alloc (.cells (madeCells #[.string (bs [])] (n + 1)) 9)) := fun W => by
    have := make133 (n + 1) (by omega) W
    rw [Nat.mul_one] at this
    exact_mod_cast this
  have HC := Lib.hid fun (W : World) => Tryz.strings_Count_one (bs s) c W
  simp only [bs_list] at HC
  have HI := Lib.hid fun (r : List UInt8) (W : World) => (show Calls Tryz.prog 142 #[.string (bs r), .string ⟨#[c]⟩] W fun e w' => e = .returned (.int .i64 (Lib.indexByte r c)) ∧ w' = W by have := Tryz.strings_Index_one (bs r) c W; rwa [bs_list] at this)
  rw [← hn] at hpl HC
  have hmin : min ((n : Int) + 1) (wrap64 (((bs s).size : Int) + 1)) = (n : Int) + 1 := by
    rw [bs_size, w64 (by omega) (by omega)]; omega
  have w1 : IntKind.i64.wrap ((n : Int) + 1) = (n : Int) + 1 := wI (by omega) (by omega)
  have w2 : IntKind.i64.wrap ((n : Int) + 1 - 1) = (n : Int) := by rw [show (n : Int) + 1 - 1 = n by omega]; exact wI (by omega) (by omega)
  have HN := Lib.hid hn; have HPL := Lib.hid hpl
  have hn5 : n ≤ 100000 := by omega
  have S0 := Lib.hid (show StrRow (w.alloc (.cells (madeCells #[.string (bs [])] (n + 1)) 9)) w.heap.size (n + 1) [] from ⟨_, Has.new w 9 _, by rw [size_madeCells], fun j x hx => by simp at hx⟩)
  have B0 := Lib.hid (newB (Below.refl w.heap.size w) (.cells (madeCells #[.string (bs [])] (n + 1)) 9))
  clear hn hpl hcb
  go_enter Tryz.func132, Tryz.ntmps132
  go_wp2_with (go_at_call 141; refine (HC.out _).mono ?_; rintro e w3 ⟨rfl, rfl⟩)
  clear hmin hmk
  generalize w3.alloc (.cells (madeCells #[.string (bs [])] (n + 1)) 9) = w4 at *
  go_loopw [0, 10] (fun v i wr => ∃ (k : Nat) (r : List UInt8) (ps : List (List UInt8)), i = .int .i64 k ∧ v = .string (bs r) ∧ ps.length = k ∧ pieces c s = ps ++ pieces c r ∧ Lib.countByte r c + k = n ∧ r.length ≤ 100000 ∧ Below w3.heap.size w3 wr ∧ StrRow wr w3.heap.size (n + 1) ps) (fun _ i _ => n - (intOf i).toNat)
  case atStart => exact ⟨0, s, [], rfl, rfl, rfl, rfl, by rw [HN.out]; rfl, hs, B0.out, S0.out⟩
  case round =>
    obtain ⟨k, r, ps, rfl, rfl, hk, hp, hcn, hr, hB, hS⟩ := hrel
    have HB := Lib.hid hB; have HS := Lib.hid hS; have HP := Lib.hid hp; have HK := Lib.hid hk
    obtain ⟨cur, hcur, hcs, hcx⟩ := id hS
    have cc : wr.cell? ⟨w3.heap.size, k, none⟩ = some (cur[k]'(by omega)) := by rw [hcur.cell]; exact Array.getElem?_eq_getElem (by omega)
    have cf : wr.frozen? ⟨w3.heap.size, k, none⟩ = false := hcur.frozen _
    generalize cur[k]'(by omega) = cv at cc
    clear hB hS hp hk hcx hcur hcs cur
    by_cases hkn : k < n
    · obtain ⟨m, hm⟩ := count_pos (c := c) (s := r) (by omega)
      have hlt := index_lt hm
      have HPm := Lib.hid (pieces_at c r m hm)
      have hcd := count_drop hm
      have HIr := Lib.hid (HI.out r)
      rw [hm] at HIr
      have z1 : ((m : Int)) ≤ ((bs r).size : Int) := by rw [bs_size]; omega
      have z2 : ((m : Int) + 1) ≤ ((bs r).size : Int) := by rw [bs_size]; omega
      have z3 : ((m : Int) + 1).toNat = m + 1 := by omega
      have z4 : IntKind.i64.wrap ((m : Int) + 1) = (m : Int) + 1 := wI (by omega) (by omega)
      have HT := Lib.hid (bs_take r m); have HD := Lib.hid (bs_drop r (m + 1))
      clear hm
      go_wp2_with (go_at_call 142; refine (HIr.out _).mono ?_; rintro e w5 ⟨rfl, rfl⟩)
      go_roundw
      case rel => exact ⟨k + 1, r.drop (m + 1), ps ++ [r.take m], by go_num, by rw [HD.out], by simp [HK.out], by rw [HP.out, HPm.out]; simp, by omega, by simp; omega, setB HB.out (by show w3.heap.size ≤ w3.heap.size; omega) _, by
        rw [HT.out, ← HK.out]
        exact HS.out.set (by rw [HK.out]; omega) _⟩
      case measure => first | (simp [intOf]; done) | (simp [intOf]; omega)
    · have hkn2 : k = n := by omega
      subst hkn2
      have h0 := count_zero (c := c) (s := r) (by omega)
      have HS2 := Lib.hid (HS.out.set (by rw [HK.out]; omega) r)
      have HP2 := Lib.hid (show pieces c s = ps ++ [r] by rw [HP.out, h0])
      have hb2 := HPL.out
      go_wp2
      refine bodyPost_ret (results_tmp rfl _ _ _) rfl ⟨w3.heap.size, ?_, ?_, setB HB.out (by show w3.heap.size ≤ w3.heap.size; omega) _⟩
      · rw [hb2]; rfl
      · have h := HS2.out.sl (by rw [← HP2.out, hb2])
        rw [HK.out] at h
        rw [hb2, HP2.out]
        exact h
/-- strings.Split at a separator of one byte. -/
theorem split_c (c : UInt8) (s : List UInt8) (hs : s.length ≤ 100000) (w : World) :
    Calls Tryz.prog 116 #[.string (bs s), .string ⟨#[c]⟩] w fun e w' => ∃ g, e = .returned (.slice (some ⟨g, 0, none⟩) (pieces c s).length (pieces c s).length) ∧ SlOf strC 1 w' (some ⟨g, 0, none⟩) (pieces c s).length (pieces c s) ∧ Below w.heap.size w w' := by
  have HG := Lib.hid (genSplit_c c s hs)
  go_enter Tryz.func116, Tryz.ntmps116
  go_wp2_with (go_at_call 132; refine (HG.out _).mono ?_; rintro e w1 ⟨g, rfl, hsl, hb⟩; have HSl := Lib.hid hsl; have HB := Lib.hid hb; clear hsl hb)
  exact bodyPost_ret (results_tmp rfl _ _ _) rfl ⟨g, rfl, HSl.out, HB.out⟩
end Go.Proofs
namespace Go.Proofs
open Go.RowKit Go.Shelf Gas
attribute [local go_sem ↓] Go.wp_at_zero Go.wp_at_succ

theorem decode_wide (s : ByteArray) (pos : Nat) (h : pos < s.size) (ha : 128 ≤ (s[pos]'h).toNat) : 128 ≤ (Utf8.decode s pos).1 := by
  have e : s.get! (pos + 0) = s[pos]'h := by
    show s.get! pos = _
    simp [ByteArray.get!, getElem!_pos, h]
    rfl
  have hn : ¬ (s[pos]'h).toNat < 0x80 := by omega
  simp only [Utf8.decode, e, hn, if_false, Utf8.runeError]
  repeat' split
  all_goals (try simp_all)
  all_goals omega
theorem run_next_wide {P : Program} (w : World) (s : ByteArray) (pos : Nat) (ty : TypeId) (h : pos < s.size) :
    (Instr.next (.pointer (some ⟨w.heap.size, 0, none⟩)) true ty).run P (w.iter s pos) =
      .ok (.tuple #[.bool true, .int .i64 pos, .int .i32 ((Utf8.decode s pos).1 : Nat)]) (w.iter s (pos + (Utf8.decode s pos).2)) := by
  simp only [Instr.next, getObj, setObj, Sem.run_bind, Sem.run, World.iter_heap, Result.andThen, h, if_true, World.iter_set]
  simp [goInt, Sem.run, World.iter_heap, World.iter_set]

def digB (b : UInt8) : Bool := decide (48 ≤ b.toNat ∧ b.toNat ≤ 57)
def numV (l : List UInt8) : Int := l.foldl (fun n b => 10 * n + ((b.toNat : Int) - 48)) 0
theorem numV_snoc (l : List UInt8) (b : UInt8) : numV (l ++ [b]) = 10 * numV l + ((b.toNat : Int) - 48) := by simp [numV]
def wordB (l : List UInt8) : Bool := decide (l.length ≤ 3) && l.all digB
/-- What gives up with noSlip. -/
def noSlip : List PanicEntry := [{ v := .iface 173 (.agg #[]), recovered := false }]
theorem numA_bd : ∀ (l : List UInt8) (a : Int) (k : Nat), l.all digB = true → 0 ≤ a → a < 10 ^ k → 0 ≤ l.foldl (fun n b => 10 * n + ((b.toNat : Int) - 48)) a ∧ l.foldl (fun n b => 10 * n + ((b.toNat : Int) - 48)) a < 10 ^ (k + l.length)
  | [], a, k, _, h0, h1 => ⟨h0, by simpa using h1⟩
  | b :: r, a, k, hd, h0, h1 => by
    simp only [List.all_cons, Bool.and_eq_true, digB, decide_eq_true_eq] at hd
    have h2 : (10 : Int) ^ (k + 1) = 10 * 10 ^ k := by rw [Int.pow_succ]; omega
    have := numA_bd r (10 * a + ((b.toNat : Int) - 48)) (k + 1) hd.2 (by omega) (by rw [h2]; omega)
    rw [List.length_cons, show k + (r.length + 1) = k + 1 + r.length by omega]
    exact this
theorem numV_bd {l : List UInt8} (h : wordB l = true) : 0 ≤ numV l ∧ numV l < 1000 := by
  simp only [wordB, Bool.and_eq_true, decide_eq_true_eq] at h
  have := numA_bd l 0 0 h.2 (Int.le_refl _) (by decide)
  refine ⟨this.1, Int.lt_of_lt_of_le this.2 ?_⟩
  have h4 : l.length = 0 ∨ l.length = 1 ∨ l.length = 2 ∨ l.length = 3 := by omega
  rcases h4 with e | e | e | e <;> rw [e] <;> decide
theorem bs_get (l : List UInt8) (k : Nat) (h : k < (bs l).size) : (bs l)[k]'h = l[k]'(by rwa [bs_size] at h) := by
  show (bs l).data[k] = _
  simp [bs]
/-- How far an iterator has come. -/
def iterPos (w : World) (g : Nat) : Nat := match w.heap[g]? with | some (.stringIter _ p) => p | _ => 0
theorem iterPos_iter (w : World) (s : ByteArray) (p : Nat) : iterPos (w.iter s p) w.heap.size = p := by
  unfold iterPos
  rw [World.iter_heap]

set_option maxHeartbeats 2000000 in
/-- A number of a slip's word. -/
theorem number_c (l : List UInt8) (hl : wordB l = true) (w : World) : Calls Tryz.prog 133 #[.string (bs l)] w fun e w' => e = .returned (.int .i64 (numV l)) ∧ Below w.heap.size w w' := by
  have h2 := hl
  simp only [wordB, Bool.and_eq_true, decide_eq_true_eq] at h2
  have hlen : ¬ (3 : Int) < ((bs l).size : Int) := by rw [bs_size]; omega
  have HD := Lib.hid h2.2
  have hl3 := h2.1
  clear hl h2
  go_enter Tryz.func133, Tryz.ntmps133
  go_wp2
  go_loopw [3] (fun v wr => ∃ k : Nat, k ≤ l.length ∧ v = .int .i64 (numV (l.take k)) ∧ wr = w.iter (bs l) k) (fun _ wr => (bs l).size - iterPos wr w.heap.size)
  case atStart => exact ⟨0, by omega, rfl, rfl⟩
  case round =>
    obtain ⟨k, hk, rfl, rfl⟩ := hrel
    by_cases hkn : k < l.length
    · have hki : k < (bs l).size := by rw [bs_size]; exact hkn
      have hb := List.all_eq_true.1 HD.out _ (List.getElem_mem hkn)
      have HT := Lib.hid (List.take_append_getElem hkn)
      have hg := bs_get l k hki
      have hbd := numV_bd (l := l.take k) (by
        simp only [wordB, Bool.and_eq_true, decide_eq_true_eq]
        exact ⟨by simp; omega, List.all_eq_true.2 fun x hx => List.all_eq_true.1 HD.out x (List.mem_of_mem_take hx)⟩)
      simp only [digB, decide_eq_true_eq] at hb
      have hnx : ∀ ty, (Instr.next (.pointer (some ⟨w.heap.size, 0, none⟩)) true ty).run Tryz.prog (w.iter (bs l) k) = .ok (.tuple #[.bool true, .int .i64 k, .int .i32 ((l[k]'hkn).toNat : Nat)]) (w.iter (bs l) (k + 1)) := fun ty => by
        rw [← hg]
        exact run_next_ascii (P := Tryz.prog) w (bs l) k ty hki (by rw [hg]; omega)
      clear hg
      generalize l[k]'hkn = b at *
      have HN := Lib.hid (show numV (l.take (k + 1)) = 10 * numV (l.take k) + ((b.toNat : Int) - 48) by rw [← HT.out, numV_snoc])
      generalize numV (l.take k) = v at *
      have v1 : IntKind.i32.wrap ((b.toNat : Int) - 48) = (b.toNat : Int) - 48 := by rw [IntKind.wrap_i32]; omega
      have v2 : IntKind.i64.wrap ((b.toNat : Int) - 48) = (b.toNat : Int) - 48 := wI (by omega) (by omega)
      have v3 : IntKind.i64.wrap (10 * v) = 10 * v := wI (by omega) (by omega)
      have v4 : IntKind.i64.wrap (10 * v + ((b.toNat : Int) - 48)) = 10 * v + ((b.toNat : Int) - 48) := wI (by omega) (by omega)
      have n1 : ¬ (b.toNat : Int) < 48 := by omega
      have n2 : ¬ (b.toNat : Int) > 57 := by omega
      go_wp2
      go_roundw
      case rel => exact ⟨k + 1, by omega, by rw [HN.out], rfl⟩
      case measure => rw [iterPos_iter, iterPos_iter, bs_size]; omega
    · have hke : k = l.length := by omega
      subst hke
      have hnx := fun ty => run_next_end (P := Tryz.prog) w (bs l) l.length ty (by rw [bs_size]; omega)
      rw [List.take_of_length_le (Nat.le_refl _)]
      go_wp2
      exact bodyPost_ret (results_tmp rfl _ _ _) rfl ⟨rfl, newB (Below.refl _ _) _⟩

theorem first_bad : ∀ (l : List UInt8), l.all digB = false → ∃ k, ∃ h : k < l.length, digB l[k] = false ∧ (l.take k).all digB = true
  | [], h => by simp at h
  | b :: r, h => by
    cases hb : digB b
    · exact ⟨0, by simp, hb, rfl⟩
    · simp only [List.all_cons, hb, Bool.true_and] at h
      obtain ⟨k, hk, h1, h2⟩ := first_bad r h
      exact ⟨k + 1, by simpa using hk, by simpa using h1, by simp [hb, h2]⟩
set_option maxHeartbeats 2000000 in
/-- A word that is no number of a slip. -/
theorem number_p (l : List UInt8) (hl : wordB l = false) (hs : l.length ≤ 1000000) (w : World) : Calls Tryz.prog 133 #[.string (bs l)] w fun e w' => e = .panicked noSlip ∧ Below w.heap.size w w' := by
  by_cases h3 : l.length ≤ 3
  · have hbad : l.all digB = false := by simpa [wordB, h3] using hl
    obtain ⟨j, hj, hd, ha⟩ := first_bad l hbad
    have hlen : ¬ (3 : Int) < ((bs l).size : Int) := by rw [bs_size]; omega
    have HA := Lib.hid ha; have HD := Lib.hid hd
    clear hl hbad ha hd
    go_enter Tryz.func133, Tryz.ntmps133
    go_wp2
    go_loopw [3] (fun v wr => ∃ k : Nat, k ≤ j ∧ v = .int .i64 (numV (l.take k)) ∧ wr = w.iter (bs l) k) (fun _ wr => (bs l).size - iterPos wr w.heap.size)
    case atStart => exact ⟨0, by omega, rfl, rfl⟩
    case round =>
      obtain ⟨k, hk, rfl, rfl⟩ := hrel
      have hkn : k < l.length := by omega
      have hki : k < (bs l).size := by rw [bs_size]; exact hkn
      have hg := bs_get l k hki
      by_cases hkj : k < j
      · have hb : digB (l[k]'hkn) = true := by
          have := List.all_eq_true.1 HA.out ((l.take j)[k]'(by simp; omega)) (List.getElem_mem _)
          simpa using this
        have HT := Lib.hid (List.take_append_getElem hkn)
        have hbd := numV_bd (l := l.take k) (by
          simp only [wordB, Bool.and_eq_true, decide_eq_true_eq]
          refine ⟨by simp; omega, List.all_eq_true.2 fun x hx => List.all_eq_true.1 HA.out x ?_⟩
          have : l.take k = (l.take j).take k := by rw [List.take_take, Nat.min_eq_left (by omega)]
          rw [this] at hx
          exact List.mem_of_mem_take hx)
        simp only [digB, decide_eq_true_eq] at hb
        have hnx : ∀ ty, (Instr.next (.pointer (some ⟨w.heap.size, 0, none⟩)) true ty).run Tryz.prog (w.iter (bs l) k) = .ok (.tuple #[.bool true, .int .i64 k, .int .i32 ((l[k]'hkn).toNat : Nat)]) (w.iter (bs l) (k + 1)) := fun ty => by
          rw [← hg]
          exact run_next_ascii (P := Tryz.prog) w (bs l) k ty hki (by rw [hg]; omega)
        clear hg
        generalize l[k]'hkn = b at *
        have HN := Lib.hid (show numV (l.take (k + 1)) = 10 * numV (l.take k) + ((b.toNat : Int) - 48) by rw [← HT.out, numV_snoc])
        generalize numV (l.take k) = v at *
        have v1 : IntKind.i32.wrap ((b.toNat : Int) - 48) = (b.toNat : Int) - 48 := by rw [IntKind.wrap_i32]; omega
        have v2 : IntKind.i64.wrap ((b.toNat : Int) - 48) = (b.toNat : Int) - 48 := wI (by omega) (by omega)
        have v3 : IntKind.i64.wrap (10 * v) = 10 * v := wI (by omega) (by omega)
        have v4 : IntKind.i64.wrap (10 * v + ((b.toNat : Int) - 48)) = 10 * v + ((b.toNat : Int) - 48) := wI (by omega) (by omega)
        have n1 : ¬ (b.toNat : Int) < 48 := by omega
        have n2 : ¬ (b.toNat : Int) > 57 := by omega
        go_wp2
        go_roundw
        case rel => exact ⟨k + 1, by omega, by rw [HN.out], rfl⟩
        case measure => rw [iterPos_iter, iterPos_iter, bs_size]; omega
      · have hkj2 : k = j := by omega
        subst hkj2
        have hb := HD.out
        have hnx : ∃ r n : Nat, (r < 48 ∨ 57 < r) ∧ ∀ ty, (Instr.next (.pointer (some ⟨w.heap.size, 0, none⟩)) true ty).run Tryz.prog (w.iter (bs l) k) = .ok (.tuple #[.bool true, .int .i64 k, .int .i32 (r : Nat)]) (w.iter (bs l) (k + n)) := by
          by_cases ha : (l[k]'hkn).toNat < 128
          · refine ⟨(l[k]'hkn).toNat, 1, by simp only [digB, decide_eq_false_iff_not] at hb; omega, fun ty => ?_⟩
            rw [← hg]
            exact run_next_ascii (P := Tryz.prog) w (bs l) k ty hki (by rw [hg]; omega)
          · have := decode_wide (bs l) k hki (by rw [hg]; omega)
            exact ⟨(Utf8.decode (bs l) k).1, (Utf8.decode (bs l) k).2, by omega, fun ty => run_next_wide (P := Tryz.prog) w (bs l) k ty hki⟩
        obtain ⟨r, n, hr, hnx⟩ := hnx
        clear hg hb
        have HBi := Lib.hid (show Below w.heap.size w (w.iter (bs l) (k + n)) from newB (Below.refl _ _) _)
        rcases hr with hr | hr
        · have n1 : (r : Int) < 48 := by omega
          go_wp2
          exact ⟨rfl, rfl, HBi.out⟩
        · have n1 : ¬ (r : Int) < 48 := by omega
          have n2 : (r : Int) > 57 := by omega
          go_wp2
          exact ⟨rfl, rfl, HBi.out⟩
  · have hlen : (3 : Int) < ((bs l).size : Int) := by rw [bs_size]; omega
    clear hl
    go_enter Tryz.func133, Tryz.ntmps133
    go_wp2
    exact ⟨rfl, rfl, Below.refl _ _⟩
end Go.Proofs
namespace Go.Proofs
open Go.RowKit Go.Shelf Gas
attribute [local go_sem ↓] Go.wp_at_zero Go.wp_at_succ

/-- The stage of a line. -/
def parseSt (line : List UInt8) : Option St := match pieces 32 line with
  | [_, a, b, c, d] => if wordB a && wordB b && wordB c && wordB d then some ⟨numV a, numV b, numV c, numV d⟩ else none
  | _ => none

set_option maxHeartbeats 4000000 in
set_option maxRecDepth 20000 in
/-- A line of five words of which the last four are numbers. -/
theorem stage_c (line : List UInt8) (hl : line.length ≤ 1000) (x a b c d : List UInt8) (hp : pieces 32 line = [x, a, b, c, d]) (ha : wordB a = true) (hb : wordB b = true) (hc : wordB c = true) (hd : wordB d = true) (w : World) :
    Calls Tryz.prog 117 #[.string (bs line)] w fun e w' => e = .returned (.agg #[.int .i64 (numV a), .int .i64 (numV b), .int .i64 (numV c), .int .i64 (numV d)]) ∧ Below w.heap.size w w' := by
  have HSp := Lib.hid fun (W : World) => split_c 32 line (by omega) W
  rw [hp] at HSp
  have HN := Lib.hid fun (l : List UInt8) (h : wordB l = true) (W : World) => number_c l h W
  have HW := Lib.hid (show ∀ (k : Nat), k < 4 → ∃ l, [x, a, b, c, d][k + 1]? = some l ∧ wordB l = true ∧ [a, b, c, d][k]? = some l from fun k hk => by
    match k, hk with
    | 0, _ => exact ⟨a, rfl, ha, rfl⟩
    | 1, _ => exact ⟨b, rfl, hb, rfl⟩
    | 2, _ => exact ⟨c, rfl, hc, rfl⟩
    | 3, _ => exact ⟨d, rfl, hd, rfl⟩)
  clear hp ha hb hc hd
  have Z := Lib.hid (Has.new w 80 #[.int .i64 0, .int .i64 0, .int .i64 0, .int .i64 0])
  have B0 := Lib.hid (newB (Below.refl w.heap.size w) (.cells #[.int .i64 0, .int .i64 0, .int .i64 0, .int .i64 0] 80))
  go_enter Tryz.func117, Tryz.ntmps117
  go_wp2_with (go_at_call 116; refine (HSp.out _).mono ?_; rintro e w1 ⟨g, rfl, hsl, hb1⟩; have SL := Lib.hid hsl; have B1 := Lib.hid (nextB B0.out hb1); have Z1 := Lib.hid (Z.out.after hb1); clear hsl hb1)
  have A0 := Lib.hid (Has.new w1 192 #[.int .i64 0, .int .i64 0, .int .i64 0, .int .i64 0])
  have BA := Lib.hid (newB (Below.refl w1.heap.size w1) (.cells #[.int .i64 0, .int .i64 0, .int .i64 0, .int .i64 0] 192))
  generalize w1.alloc (.cells #[.int .i64 0, .int .i64 0, .int .i64 0, .int .i64 0] 192) = w2 at *
  go_loopw [17] (fun v wr => ∃ (k : Nat) (cur : Array Value), k ≤ 4 ∧ v = .int .i64 k ∧ Below w1.heap.size w1 wr ∧ Has wr w1.heap.size 192 cur ∧ cur.size = 4 ∧ ∀ j, j < k → ∃ l, [a, b, c, d][j]? = some l ∧ cur[j]? = some (.int .i64 (numV l))) (fun v _ => 4 - (intOf v).toNat)
  case atStart => exact ⟨0, _, by omega, rfl, BA.out, A0.out, rfl, fun j hj => by omega⟩
  case round =>
    obtain ⟨k, cur, hk, rfl, hB, hA, hs, hj⟩ := hrel
    have HB := Lib.hid hB; have HA := Lib.hid hA; have HS := Lib.hid hs; have HJ := Lib.hid hj
    clear hB hA hj A0 BA
    by_cases hk4 : k < 4
    · obtain ⟨l, h1, h2, h3⟩ := HW.out k hk4
      have cl : wr.cell? ⟨g, 1 + k, none⟩ = some (.string (bs l)) := by
        have := (((SL.out.keep HB.out).range strC_len h1)) 0 _ rfl
        simpa [Nat.add_comm] using this
      have HNl := Lib.hid (HN.out l h2)
      have HL3 := Lib.hid h3
      have hk4i : (k : Int) < 4 := by omega
      clear h1 h2 h3
      go_wp2_with (go_at_call 133; refine (HNl.out _).mono ?_; rintro e w5 ⟨rfl, hb⟩; have HB5 := Lib.hid (nextB HB.out hb); have HA5 := Lib.hid (HA.out.after hb); have ca : w5.cell? ⟨w1.heap.size, k, none⟩ = some (cur[k]'(by omega)) := (by rw [HA5.out.cell]; exact Array.getElem?_eq_getElem (by omega)); have cf : w5.frozen? ⟨w1.heap.size, k, none⟩ = false := HA5.out.frozen _; clear hb)
      go_roundw
      case rel =>
        refine ⟨k + 1, cur.setIfInBounds k (.int .i64 (numV l)), by omega, by go_num, setB HB5.out (by show w1.heap.size ≤ w1.heap.size; omega) _, HA5.out.set k _, by simpa using HS.out, fun j hj => ?_⟩
        rw [Array.getElem?_setIfInBounds]
        by_cases hjk : k = j
        · subst hjk
          exact ⟨l, HL3.out, by have := HS.out; simp; omega⟩
        · rw [if_neg hjk]
          exact HJ.out j (by omega)
      case measure => first | (simp [intOf]; done) | (simp [intOf]; omega)
    · have hk44 : k = 4 := by omega
      subst hk44
      obtain ⟨l0, e0, c0⟩ := HJ.out 0 (by omega)
      obtain ⟨l1, e1, c1⟩ := HJ.out 1 (by omega)
      obtain ⟨l2, e2, c2⟩ := HJ.out 2 (by omega)
      obtain ⟨l3, e3, c3⟩ := HJ.out 3 (by omega)
      cases e0; cases e1; cases e2; cases e3
      rw [← HA.out.cell] at c0 c1 c2 c3
      have Z2 := Lib.hid (Z1.out.after HB.out); have B2 := Lib.hid (nextB B1.out HB.out)
      clear HJ HA HS
      go_wp2_with (refine wpList_store_all rfl 80 _ _ rfl w.heap.size rfl _ rfl 80 _ Z2.out (by kernel_rfl) rfl (by simp [Value.oneCell']) ?_)
      exact bodyPost_ret (results_cell_row Tryz.results117 _ _ w.heap.size 80 _ (0, 0) _ rfl (Z2.out.setRow _) Tryz.underlying80 rfl (by kernel_rfl)) rfl ⟨rfl, rowB B2.out (by omega) _⟩

theorem len5 {α : Type} {l : List α} (h : l.length = 5) : ∃ x a b c d, l = [x, a, b, c, d] := by
  match l, h with
  | [x, a, b, c, d], _ => exact ⟨x, a, b, c, d, rfl⟩
set_option maxHeartbeats 4000000 in
set_option maxRecDepth 20000 in
/-- A line of which the words are not as those of a stage. -/
theorem stage_p (line : List UInt8) (hl : line.length ≤ 1000) (hp : parseSt line = none) (w : World) :
    Calls Tryz.prog 117 #[.string (bs line)] w fun e w' => e = .panicked noSlip ∧ Below w.heap.size w w' := by
  have HSp := Lib.hid fun (W : World) => split_c 32 line (by omega) W
  have Z := Lib.hid (Has.new w 80 #[.int .i64 0, .int .i64 0, .int .i64 0, .int .i64 0])
  have B0 := Lib.hid (newB (Below.refl w.heap.size w) (.cells #[.int .i64 0, .int .i64 0, .int .i64 0, .int .i64 0] 80))
  by_cases h5 : (pieces 32 line).length = 5
  · obtain ⟨x, a, b, c, d, hw⟩ := len5 h5
    have hbd : ∃ j, j < 4 ∧ ∃ l, [x, a, b, c, d][j + 1]? = some l ∧ wordB l = false ∧ ∀ i, i < j → ∃ l, [x, a, b, c, d][i + 1]? = some l ∧ wordB l = true := by
      unfold parseSt at hp
      rw [hw] at hp
      simp only at hp
      cases ha : wordB a
      · exact ⟨0, by omega, a, rfl, ha, fun i hi => by omega⟩
      · cases hb : wordB b
        · exact ⟨1, by omega, b, rfl, hb, fun i hi => by obtain rfl : i = 0 := by omega
                                                         exact ⟨a, rfl, ha⟩⟩
        · cases hc : wordB c
          · exact ⟨2, by omega, c, rfl, hc, fun i hi => by
              match i, hi with
              | 0, _ => exact ⟨a, rfl, ha⟩
              | 1, _ => exact ⟨b, rfl, hb⟩⟩
          · cases hd : wordB d
            · exact ⟨3, by omega, d, rfl, hd, fun i hi => by
                match i, hi with
                | 0, _ => exact ⟨a, rfl, ha⟩
                | 1, _ => exact ⟨b, rfl, hb⟩
                | 2, _ => exact ⟨c, rfl, hc⟩⟩
            · rw [ha, hb, hc, hd] at hp
              cases hp
    obtain ⟨j, hj4, lb, hlb, hbad, hgood⟩ := hbd
    have HG := Lib.hid hgood; have HLB := Lib.hid hlb
    have hlen : lb.length ≤ 1000000 := by
      have : lb ∈ pieces 32 line := by rw [hw]; exact List.mem_of_getElem? hlb
      have h2 : ∀ (s : List UInt8) p, p ∈ pieces 32 s → p.length ≤ s.length := by
        intro s
        induction s with
        | nil => intro p hp; simp [pieces] at hp; simp [hp]
        | cons y r ih =>
          intro p hp
          simp only [pieces] at hp
          split at hp
          · rcases List.mem_cons.1 hp with rfl | hp
            · simp
            · have := ih p hp; simp; omega
          · split at hp
            · rename_i q qs hq
              rcases List.mem_cons.1 hp with rfl | hp
              · have := ih q (by rw [hq]; simp); simp; omega
              · have := ih p (by rw [hq]; simp [hp]); simp; omega
            · simp at hp; simp [hp]
      have := h2 line lb this
      omega
    have HP := Lib.hid fun (W : World) => number_p lb hbad hlen W
    have HN := Lib.hid fun (l : List UInt8) (h : wordB l = true) (W : World) => number_c l h W
    rw [hw] at HSp
    clear hp h5 hw hbad hgood hlb hlen
    go_enter Tryz.func117, Tryz.ntmps117
    go_wp2_with (go_at_call 116; refine (HSp.out _).mono ?_; rintro e w1 ⟨g, rfl, hsl, hb1⟩; have SL := Lib.hid hsl; have B1 := Lib.hid (nextB B0.out hb1); have Z1 := Lib.hid (Z.out.after hb1); clear hsl hb1)
    have A0 := Lib.hid (Has.new w1 192 #[.int .i64 0, .int .i64 0, .int .i64 0, .int .i64 0])
    have BA := Lib.hid (newB (Below.refl w1.heap.size w1) (.cells #[.int .i64 0, .int .i64 0, .int .i64 0, .int .i64 0] 192))
    generalize w1.alloc (.cells #[.int .i64 0, .int .i64 0, .int .i64 0, .int .i64 0] 192) = w2 at *
    go_loopw [17] (fun v wr => ∃ (k : Nat) (cur : Array Value), k ≤ j ∧ v = .int .i64 k ∧ Below w1.heap.size w1 wr ∧ Has wr w1.heap.size 192 cur ∧ cur.size = 4) (fun v _ => 4 - (intOf v).toNat)
    case atStart => exact ⟨0, _, by omega, rfl, BA.out, A0.out, rfl⟩
    case round =>
      obtain ⟨k, cur, hk, rfl, hB, hA, hs⟩ := hrel
      have HB := Lib.hid hB; have HA := Lib.hid hA; have HS := Lib.hid hs
      clear hB hA A0 BA
      have hk4 : k < 4 := by omega
      have hk4i : (k : Int) < 4 := by omega
      by_cases hkj : k < j
      · obtain ⟨l, h1, h2⟩ := HG.out k hkj
        have cl : wr.cell? ⟨g, 1 + k, none⟩ = some (.string (bs l)) := by
          have := (((SL.out.keep HB.out).range strC_len h1)) 0 _ rfl
          simpa [Nat.add_comm] using this
        have HNl := Lib.hid (HN.out l h2)
        clear h1 h2
        go_wp2_with (go_at_call 133; refine (HNl.out _).mono ?_; rintro e w5 ⟨rfl, hb⟩; have HB5 := Lib.hid (nextB HB.out hb); have HA5 := Lib.hid (HA.out.after hb); have ca : w5.cell? ⟨w1.heap.size, k, none⟩ = some (cur[k]'(by omega)) := (by rw [HA5.out.cell]; exact Array.getElem?_eq_getElem (by omega)); have cf : w5.frozen? ⟨w1.heap.size, k, none⟩ = false := HA5.out.frozen _; clear hb)
        go_roundw
        case rel => exact ⟨k + 1, cur.setIfInBounds k (.int .i64 (numV l)), by omega, by go_num, setB HB5.out (by show w1.heap.size ≤ w1.heap.size; omega) _, HA5.out.set k _, by simpa using HS.out⟩
        case measure => first | (simp [intOf]; done) | (simp [intOf]; omega)
      · have hkj2 : k = j := by omega
        subst hkj2
        have cl : wr.cell? ⟨g, 1 + k, none⟩ = some (.string (bs lb)) := by
          have := (((SL.out.keep HB.out).range strC_len HLB.out)) 0 _ rfl
          simpa [Nat.add_comm] using this
        have HBw := Lib.hid (nextB B1.out HB.out)
        go_wp2_with (go_at_call 133; refine (HP.out _).mono ?_; rintro e w5 ⟨rfl, hb⟩; have HB5 := Lib.hid (nextB HBw.out hb); clear hb)
        exact ⟨rfl, rfl, HB5.out⟩
  · have hne : (((pieces 32 line).length : Int) != 5) = true := by rw [bne_iff_ne]; omega
    clear hp
    generalize (pieces 32 line).length = m at *
    go_enter Tryz.func117, Tryz.ntmps117
    go_wp2_with (go_at_call 116; refine (HSp.out _).mono ?_; rintro e w1 ⟨g, rfl, hsl, hb1⟩; have B1 := Lib.hid (nextB B0.out hb1); clear hsl hb1)
    exact ⟨rfl, rfl, B1.out⟩
end Go.Proofs
namespace Go.Proofs
open Go.RowKit Go.Shelf Gas
attribute [local go_sem ↓] Go.wp_at_zero Go.wp_at_succ

def parseAll : List (List UInt8) → Option (List St)
  | [] => some []
  | l :: r => match parseSt l with | none => none | some s => (parseAll r).map (s :: ·)
/-- The lines of a text that are of stages. -/
def midL (text : List UInt8) : List (List UInt8) := ((pieces 10 text).take ((pieces 10 text).length - 2)).drop 1
/-- The stages that a text tells. -/
def toldF (text : List UInt8) : Option (List St) := if (pieces 10 text).length < 3 then none else
  match parseAll (midL text) with | none => none | some ss => if slipL ss = text then some ss else none
theorem pieces_lens {c : UInt8} : ∀ (s : List UInt8) p, p ∈ pieces c s → p.length ≤ s.length := by
  intro s
  induction s with
  | nil => intro p hp; simp [pieces] at hp; simp [hp]
  | cons y r ih =>
    intro p hp
    simp only [pieces] at hp
    split at hp
    · rcases List.mem_cons.1 hp with rfl | hp
      · simp
      · have := ih p hp; simp; omega
    · split at hp
      · rename_i q qs hq
        rcases List.mem_cons.1 hp with rfl | hp
        · have := ih q (by rw [hq]; simp); simp; omega
        · have := ih p (by rw [hq]; simp [hp]); simp; omega
      · simp at hp; simp [hp]
theorem parse_num {l : List UInt8} {s : St} (h : parseSt l = some s) : stNum s ∧ (s.dl < 1000 ∧ s.dh < 1000 ∧ s.ml < 1000 ∧ s.mh < 1000) := by
  unfold parseSt at h
  split at h
  · split at h
    · rename_i hw
      simp only [Bool.and_eq_true] at hw
      simp only [Option.some.injEq] at h
      have h1 := numV_bd hw.1.1.1; have h2 := numV_bd hw.1.1.2; have h3 := numV_bd hw.1.2; have h4 := numV_bd hw.2
      subst h
      simp only [stNum]
      omega
    · cases h
  · cases h
theorem parseAll_cons {l : List UInt8} {r : List (List UInt8)} {ss : List St} (h : parseAll (l :: r) = some ss) : ∃ s t, parseSt l = some s ∧ parseAll r = some t ∧ ss = s :: t := by
  simp only [parseAll] at h
  split at h
  · cases h
  · rename_i s hs
    cases hr : parseAll r with
    | none => rw [hr] at h; cases h
    | some t => rw [hr] at h; cases h; exact ⟨s, t, hs, rfl, rfl⟩
theorem parseAll_get : ∀ {ls : List (List UInt8)} {ss : List St}, parseAll ls = some ss → ss.length = ls.length ∧ ∀ (k : Nat) l, ls[k]? = some l → ∃ s, parseSt l = some s ∧ ss[k]? = some s
  | [], ss, h => by cases h; exact ⟨rfl, fun k l hl => by simp at hl⟩
  | l :: r, ss, h => by
    obtain ⟨s, t, h1, h2, rfl⟩ := parseAll_cons h
    obtain ⟨i1, i2⟩ := parseAll_get h2
    refine ⟨by simp [i1], fun k l' hl => ?_⟩
    cases k with
    | zero => cases hl; exact ⟨s, h1, rfl⟩
    | succ k => exact i2 k l' (by simpa using hl)
theorem parseAll_none : ∀ {ls : List (List UInt8)}, parseAll ls = none → ∃ k, ∃ l, ls[k]? = some l ∧ parseSt l = none ∧ ∃ t, parseAll (ls.take k) = some t
  | [], h => by cases h
  | l :: r, h => by
    cases hs : parseSt l with
    | none => exact ⟨0, l, rfl, hs, [], rfl⟩
    | some s =>
      simp only [parseAll, hs] at h
      cases hr : parseAll r with
      | some t => rw [hr] at h; cases h
      | none =>
        obtain ⟨k, l', h1, h2, t, h3⟩ := parseAll_none hr
        exact ⟨k + 1, l', by simpa using h1, h2, s :: t, by simp [parseAll, hs, h3]⟩
theorem wpList_app29 {ops : Array Oper} {rest : List Oper} {o : Oper} {a : Act} {w : World} {Q : Exit → Act → World → Prop} (hgd : o.guard = none) (s x : Operand)
    (ho : o.op = .call { callee := .builtin .append, args := #[s, x], argTypes := #[29, 29] })
    (base : Nat) (v : Value) (n : Nat) (ys : List St) (hs : a.eval s = v) (hown : w.ownsRow base 80 4 v n (flat St.cs ys))
    (B : Nat) (x0 : St) (hx : a.eval x = .slice (some ⟨B, 0, none⟩) 1 1) (hB : Has w B 80 #[.int .i64 x0.dl, .int .i64 x0.dh, .int .i64 x0.ml, .int .i64 x0.mh]) (hb : n + 1 ≤ 4000000) (hbase : base ≤ w.heap.size)
    (h : ∀ v' w', w'.ownsRow base 80 4 v' (n + 1) (flat St.cs (ys ++ [x0])) → Below base w w' → wpList Tryz.prog ops Q rest (a.put o.dst v') w') : wpList Tryz.prog ops Q (o :: rest) a w :=
  wpList_app54 hgd s x ho base v n ys hs hown (some ⟨B, 0, none⟩) 1 1 [x0] hx (by intro h; cases h) (SlOf.of_cells St.cs_len hB rfl rfl) hb hbase h
end Go.Proofs
namespace Go.Proofs
open Go.RowKit Go.Shelf Gas
attribute [local go_sem ↓] Go.wp_at_zero Go.wp_at_succ

theorem mid_get {text : List UInt8} {k : Nat} (h : k + 3 < (pieces 10 text).length) : (midL text)[k]? = (pieces 10 text)[k + 1]? := by
  unfold midL
  rw [List.getElem?_drop, List.getElem?_take, if_pos (by omega), Nat.add_comm]
theorem mid_len (text : List UInt8) : (midL text).length = (pieces 10 text).length - 3 := by
  unfold midL
  simp; omega
theorem rows_small {ss : List St} (hn : ss.length ≤ 1000) (h : ∀ s ∈ ss, stNum s ∧ (s.dl < 1000 ∧ s.dh < 1000 ∧ s.ml < 1000 ∧ s.mh < 1000)) : ∀ r ∈ rowsOf ss, ∀ x ∈ r, 0 ≤ x ∧ x ≤ 1000 := by
  intro r hr x hx
  simp only [rowsOf, List.mem_cons, List.mem_map] at hr
  rcases hr with rfl | ⟨s, hs, rfl⟩
  · simp at hx; omega
  · obtain ⟨⟨h1, h2, h3, h4⟩, h5⟩ := h s hs
    simp only [List.mem_cons, List.not_mem_nil, or_false] at hx
    rcases hx with rfl | rfl | rfl | rfl <;> omega
theorem parseAll_small {ls : List (List UInt8)} {ss : List St} (h : parseAll ls = some ss) : ∀ s ∈ ss, stNum s ∧ (s.dl < 1000 ∧ s.dh < 1000 ∧ s.ml < 1000 ∧ s.mh < 1000) := by
  intro s hs
  obtain ⟨h1, h2⟩ := parseAll_get h
  obtain ⟨k, hk, e⟩ := List.getElem_of_mem hs
  obtain ⟨s', h3, h4⟩ := h2 k _ (List.getElem?_eq_getElem (by omega))
  rw [List.getElem?_eq_getElem hk, e] at h4
  cases h4
  exact parse_num h3

theorem owns_form2 {w : World} {b n : Nat} {v : Value} {xs : List St} (h : w.ownsRow b 80 4 v n (flat St.cs xs)) (hn : xs.length = n) : ∃ A c, v = .slice A n c ∧ SlOf St.cs 4 w A n xs ∧ (A = none → c = 0) ∧ ∀ ad, A = some ad → b ≤ ad.block := by
  rcases h.2 with ⟨rfl, h0⟩ | ⟨g, cap, cur, rfl, h2, h3, h4, h5, h6, h7⟩
  · have hx : xs = [] := List.eq_nil_of_length_eq_zero (by omega)
    subst hx; subst h0
    exact ⟨none, 0, rfl, SlOf.nil _ _ _, fun _ => rfl, fun _ h => by cases h⟩
  · have hr : RowOf St.cs 4 w g 80 n xs := ⟨cur, h3, hn, fun j u hu => by
      rw [← h7, List.getElem?_take] at hu
      split at hu
      · rw [← Array.getElem?_toList]; exact hu
      · cases hu⟩
    exact ⟨_, cap, rfl, hr.sl St.cs_len, (fun h => by cases h), fun ad h => by cases h; exact h2⟩

set_option maxHeartbeats 4000000 in
set_option maxRecDepth 20000 in
theorem told_c (text : List UInt8) (hlen : text.length ≤ 300) (ss : List St) (ht : toldF text = some ss) (w : World) (hI : ∀ x : Int, 0 ≤ x → x ≤ 1000 → ItoaOk w x) :
    Calls Tryz.prog 82 #[.string (bs text)] w fun e w' => ∃ A c, e = .returned (.slice A ss.length c) ∧ SlOf St.cs 4 w' A ss.length ss ∧ (A = none → c = 0) ∧ (∀ ad, A = some ad → w.heap.size ≤ ad.block) ∧ Below w.heap.size w w' := by
  have h3 : ¬ (pieces 10 text).length < 3 := by intro h; unfold toldF at ht; rw [if_pos h] at ht; cases ht
  unfold toldF at ht
  rw [if_neg h3] at ht
  cases hpa : parseAll (midL text) with
  | none => rw [hpa] at ht; cases ht
  | some ss' =>
    rw [hpa] at ht
    simp only at ht
    split at ht
    · rename_i hsl
      cases ht
      obtain ⟨hl1, hget⟩ := parseAll_get hpa
      have hsm := parseAll_small hpa
      have hpl := pieces_len 10 text
      have hcb := pieces_bd 10 text
      rw [mid_len] at hl1
      have HSp := Lib.hid fun (W : World) => split_c 10 text (by omega) W
      obtain ⟨m, hm⟩ : ∃ m, m = (pieces 10 text).length := ⟨_, rfl⟩
      rw [← hm] at HSp h3 hl1
      have hm2 : m ≤ 301 := by omega
      have HG := Lib.hid (show ∀ (k : Nat), k < ss.length → ∃ l s, (pieces 10 text)[k + 1]? = some l ∧ l.length ≤ 1000 ∧ (∀ W, Calls Tryz.prog 117 #[.string (bs l)] W fun e w' => e = .returned (.agg #[.int .i64 s.dl, .int .i64 s.dh, .int .i64 s.ml, .int .i64 s.mh]) ∧ Below W.heap.size W w') ∧ ss[k]? = some s from fun k hk => by
        have hmid := mid_get (text := text) (k := k) (by omega)
        obtain ⟨l, hl⟩ : ∃ l, (midL text)[k]? = some l := ⟨_, List.getElem?_eq_getElem (by rw [mid_len, ← hm]; omega)⟩
        obtain ⟨s, h1, h2⟩ := hget k l hl
        rw [hmid] at hl
        have hll : l.length ≤ 1000 := by have := pieces_lens text l (List.mem_of_getElem? hl); omega
        refine ⟨l, s, hl, hll, fun W => ?_, h2⟩
        unfold parseSt at h1
        split at h1
        · rename_i x a b c d hw
          split at h1
          · rename_i hb
            simp only [Bool.and_eq_true] at hb
            simp only [Option.some.injEq] at h1
            subst h1
            exact stage_c l hll x a b c d hw hb.1.1.1 hb.1.1.2 hb.1.2 hb.2 W
          · cases h1
        · cases h1)
      have HSm := Lib.hid (rows_small (by omega) hsm)
      have HSn := Lib.hid fun s hs => (hsm s hs).1
      have HI := Lib.hid hI; have HSl := Lib.hid hsl; have HL1 := Lib.hid hl1; have HM := Lib.hid hm
      clear hm hpa hget hsm hpl hcb hI hsl hl1
      have z1 : ¬ (m : Int) < 3 := by omega
      have z2 : IntKind.i64.wrap ((m : Int) - 2) = (m : Int) - 2 := wI (by omega) (by omega)
      have z3 : ¬ m = 1 := by omega
      go_enter Tryz.func82, Tryz.ntmps82
      go_wp2_with (go_at_call 116; refine (HSp.out _).mono ?_; rintro e w1 ⟨g, rfl, hsl, hb1⟩; have SL := Lib.hid hsl; have B1 := Lib.hid hb1; clear hsl hb1)
      have z4 : ((m : Int) - 2).toNat = m - 2 := by omega
      go_loopw [4, 20] (fun v i wr => ∃ k : Nat, k ≤ m - 3 ∧ i = .int .i64 k ∧ wr.ownsRow w1.heap.size 80 4 v k (flat St.cs (ss.take k)) ∧ Below w1.heap.size w1 wr) (fun _ i _ => m - 3 - (intOf i).toNat)
      case atStart => exact ⟨0, by omega, rfl, World.ownsRow_nil _ _ _ _, Below.refl _ _⟩
      case round =>
        obtain ⟨k, hk, rfl, hO, hB⟩ := hrel
        have HO := Lib.hid hO; have HB := Lib.hid hB
        clear hO hB
        have hl1 := HL1.out
        by_cases hkn : k < m - 3
        · obtain ⟨l, s, h1, h2, h3, h4⟩ := HG.out k (by omega)
          have cl : wr.cell? ⟨g, 1 + k, none⟩ = some (.string (bs l)) := by
            have := (((SL.out.keep HB.out).range strC_len h1)) 0 _ rfl
            simpa [Nat.add_comm] using this
          have HSt := Lib.hid h3
          have HTk := Lib.hid (show ss.take (k + 1) = ss.take k ++ [s] by rw [List.take_add_one, h4]; rfl)
          have hki : (k : Int) < (m : Int) - 2 - 1 := by omega
          clear h1 h2 h3 h4
          obtain ⟨dl, dh, ml, mh⟩ := s
          simp only at HSt
          go_wp2_with (first
            | (go_at_call 117; refine (HSt.out _).mono ?_; rintro e w5 ⟨rfl, hb⟩; have HB5 := Lib.hid (newB (nextB HB.out hb) (.cells #[.int .i64 dl, .int .i64 dh, .int .i64 ml, .int .i64 mh] 80)); have HO5 := Lib.hid ((owns_keep HO.out hb).alloc (.cells #[.int .i64 dl, .int .i64 dh, .int .i64 ml, .int .i64 mh] 80)); clear hb)
            | (at_builtin; refine wpList_app29 rfl _ _ rfl w1.heap.size u4 k (ss.take k) rfl HO5.out w5.heap.size ⟨dl, dh, ml, mh⟩ rfl (Has.new w5 80 _) (by omega) HB5.out.size ?_; intro v3 w6 ho3 hb3; have HO6 := Lib.hid ho3; have HB6 := Lib.hid (HB5.out.trans hb3); clear ho3 hb3))
          go_roundw
          case rel => exact ⟨k + 1, by omega, by go_num, by rw [HTk.out]; exact HO6.out, HB6.out⟩
          case measure => first | (simp [intOf]; done) | (simp [intOf]; omega)
        · obtain rfl : k = m - 3 := by omega
          have ho := HO.out
          rw [List.take_of_length_le (by rw [HL1.out]; exact Nat.le_refl _)] at ho
          obtain ⟨A', c', rfl, hd', hA', hb'⟩ := owns_form2 ho HL1.out
          have HF' := Lib.hid fun ad h => (show w.heap.size ≤ ad.block from Nat.le_trans B1.out.size (hb' ad h))
          clear hb'
          have HD' := Lib.hid hd'; have HA' := Lib.hid hA'
          have HBw := Lib.hid (nextB B1.out HB.out)
          have HSlip := Lib.hid (slip_c A' (m - 3) c' ss (by omega) wr hd' HSn.out (fun r hr x hx => (HI.out x (HSm.out r hr x hx).1 (HSm.out r hr x hx).2).keep HBw.out))
          rw [HSl.out] at HSlip
          clear ho hd' hA' HO HG HSm HSn
          go_wp2_with (go_at_call 79; refine HSlip.out.mono ?_; rintro e w7 ⟨rfl, hb⟩; have HB7 := Lib.hid (nextB HBw.out hb); have HD7 := Lib.hid (HD'.out.keep hb); clear hb)
          exact bodyPost_ret (results_tmp rfl _ _ _) rfl ⟨A', c', by rw [HL1.out]; rfl, by rw [HL1.out]; exact HD7.out, HA'.out, HF'.out, HB7.out⟩
    · cases ht
end Go.Proofs
namespace Go.Proofs
open Go.RowKit Go.Shelf Gas
attribute [local go_sem ↓] Go.wp_at_zero Go.wp_at_succ

set_option maxHeartbeats 4000000 in
set_option maxRecDepth 20000 in
theorem told_n (text : List UInt8) (hlen : text.length ≤ 300) (ss : List St) (h3 : ¬ (pieces 10 text).length < 3) (hpa : parseAll (midL text) = some ss) (hsl : ¬ slipL ss = text) (w : World) (hI : ∀ x : Int, 0 ≤ x → x ≤ 1000 → ItoaOk w x) :
    Calls Tryz.prog 82 #[.string (bs text)] w fun e w' => e = .panicked noSlip ∧ Below w.heap.size w w' := by
  obtain ⟨hl1, hget⟩ := parseAll_get hpa
  have hsm := parseAll_small hpa
  have hpl := pieces_len 10 text
  have hcb := pieces_bd 10 text
  rw [mid_len] at hl1
  have HSp := Lib.hid fun (W : World) => split_c 10 text (by omega) W
  obtain ⟨m, hm⟩ : ∃ m, m = (pieces 10 text).length := ⟨_, rfl⟩
  rw [← hm] at HSp h3 hl1
  have hm2 : m ≤ 301 := by omega
  have HG := Lib.hid (show ∀ (k : Nat), k < ss.length → ∃ l s, (pieces 10 text)[k + 1]? = some l ∧ l.length ≤ 1000 ∧ (∀ W, Calls Tryz.prog 117 #[.string (bs l)] W fun e w' => e = .returned (.agg #[.int .i64 s.dl, .int .i64 s.dh, .int .i64 s.ml, .int .i64 s.mh]) ∧ Below W.heap.size W w') ∧ ss[k]? = some s from fun k hk => by
    have hmid := mid_get (text := text) (k := k) (by omega)
    obtain ⟨l, hl⟩ : ∃ l, (midL text)[k]? = some l := ⟨_, List.getElem?_eq_getElem (by rw [mid_len, ← hm]; omega)⟩
    obtain ⟨s, h1, h2⟩ := hget k l hl
    rw [hmid] at hl
    have hll : l.length ≤ 1000 := by have := pieces_lens text l (List.mem_of_getElem? hl); omega
    refine ⟨l, s, hl, hll, fun W => ?_, h2⟩
    unfold parseSt at h1
    split at h1
    · rename_i x a b c d hw
      split at h1
      · rename_i hb
        simp only [Bool.and_eq_true] at hb
        simp only [Option.some.injEq] at h1
        subst h1
        exact stage_c l hll x a b c d hw hb.1.1.1 hb.1.1.2 hb.1.2 hb.2 W
      · cases h1
    · cases h1)
  have HSm := Lib.hid (rows_small (by omega) hsm)
  have HSn := Lib.hid fun s hs => (hsm s hs).1
  have HI := Lib.hid hI; have hne : ((bs (slipL ss)).toList == (bs text).toList) = false := by
    rw [beq_eq_false_iff_ne, ByteArray.toList_eq, ByteArray.toList_eq, bs_list, bs_list]; exact hsl
  have HNe := Lib.hid hne; clear hne hsl
  have HMm := Lib.hid hm; have HL1 := Lib.hid hl1; have HM := Lib.hid hm
  clear hm hpa hget hsm hpl hcb hI hl1
  have z1 : ¬ (m : Int) < 3 := by omega
  have z2 : IntKind.i64.wrap ((m : Int) - 2) = (m : Int) - 2 := wI (by omega) (by omega)
  have z3 : ¬ m = 1 := by omega
  go_enter Tryz.func82, Tryz.ntmps82
  go_wp2_with (go_at_call 116; refine (HSp.out _).mono ?_; rintro e w1 ⟨g, rfl, hsl, hb1⟩; have SL := Lib.hid hsl; have B1 := Lib.hid hb1; clear hsl hb1)
  have z4 : ((m : Int) - 2).toNat = m - 2 := by omega
  go_loopw [4, 20] (fun v i wr => ∃ k : Nat, k ≤ m - 3 ∧ i = .int .i64 k ∧ wr.ownsRow w1.heap.size 80 4 v k (flat St.cs (ss.take k)) ∧ Below w1.heap.size w1 wr) (fun _ i _ => m - 3 - (intOf i).toNat)
  case atStart => exact ⟨0, by omega, rfl, World.ownsRow_nil _ _ _ _, Below.refl _ _⟩
  case round =>
    obtain ⟨k, hk, rfl, hO, hB⟩ := hrel
    have HO := Lib.hid hO; have HB := Lib.hid hB
    clear hO hB
    have hl1 := HL1.out
    by_cases hkn : k < m - 3
    · obtain ⟨l, s, h1, h2, h3, h4⟩ := HG.out k (by omega)
      have cl : wr.cell? ⟨g, 1 + k, none⟩ = some (.string (bs l)) := by
        have := (((SL.out.keep HB.out).range strC_len h1)) 0 _ rfl
        simpa [Nat.add_comm] using this
      have HSt := Lib.hid h3
      have HTk := Lib.hid (show ss.take (k + 1) = ss.take k ++ [s] by rw [List.take_add_one, h4]; rfl)
      have hki : (k : Int) < (m : Int) - 2 - 1 := by omega
      clear h1 h2 h3 h4
      obtain ⟨dl, dh, ml, mh⟩ := s
      simp only at HSt
      go_wp2_with (first
        | (go_at_call 117; refine (HSt.out _).mono ?_; rintro e w5 ⟨rfl, hb⟩; have HB5 := Lib.hid (newB (nextB HB.out hb) (.cells #[.int .i64 dl, .int .i64 dh, .int .i64 ml, .int .i64 mh] 80)); have HO5 := Lib.hid ((owns_keep HO.out hb).alloc (.cells #[.int .i64 dl, .int .i64 dh, .int .i64 ml, .int .i64 mh] 80)); clear hb)
        | (at_builtin; refine wpList_app29 rfl _ _ rfl w1.heap.size u4 k (ss.take k) rfl HO5.out w5.heap.size ⟨dl, dh, ml, mh⟩ rfl (Has.new w5 80 _) (by omega) HB5.out.size ?_; intro v3 w6 ho3 hb3; have HO6 := Lib.hid ho3; have HB6 := Lib.hid (HB5.out.trans hb3); clear ho3 hb3))
      go_roundw
      case rel => exact ⟨k + 1, by omega, by go_num, by rw [HTk.out]; exact HO6.out, HB6.out⟩
      case measure => first | (simp [intOf]; done) | (simp [intOf]; omega)
    · obtain rfl : k = m - 3 := by omega
      have ho := HO.out
      rw [List.take_of_length_le (by rw [HL1.out]; exact Nat.le_refl _)] at ho
      obtain ⟨A', c', rfl, hd', hA', _⟩ := owns_form2 ho HL1.out
      have HD' := Lib.hid hd'; have HA' := Lib.hid hA'
      have HBw := Lib.hid (nextB B1.out HB.out)
      have HSlip := Lib.hid (slip_c A' (m - 3) c' ss (by omega) wr hd' HSn.out (fun r hr x hx => (HI.out x (HSm.out r hr x hx).1 (HSm.out r hr x hx).2).keep HBw.out))
      have hne := HNe.out
      generalize bs (slipL ss) = bsl at *
      clear ho hd' hA' HO HG HSm HSn
      go_wp2_with (go_at_call 79; refine HSlip.out.mono ?_; rintro e w7 ⟨rfl, hb⟩; have HB7 := Lib.hid (nextB HBw.out hb); have HD7 := Lib.hid (HD'.out.keep hb); clear hb)
      exact ⟨rfl, rfl, HB7.out⟩

set_option maxHeartbeats 4000000 in
set_option maxRecDepth 20000 in
theorem told_q (text : List UInt8) (hlen : text.length ≤ 300) (h3 : ¬ (pieces 10 text).length < 3) (hpa : parseAll (midL text) = none) (w : World) :
    Calls Tryz.prog 82 #[.string (bs text)] w fun e w' => e = .panicked noSlip ∧ Below w.heap.size w w' := by
  obtain ⟨j, lb, hlb, hbad, t, hgood⟩ := parseAll_none hpa
  obtain ⟨hl1, hget⟩ := parseAll_get hgood
  have hpl := pieces_len 10 text
  have hcb := pieces_bd 10 text
  have hjl : j < (midL text).length := (List.getElem?_eq_some_iff.1 hlb).1
  rw [mid_len] at hjl
  have HSp := Lib.hid fun (W : World) => split_c 10 text (by omega) W
  obtain ⟨m, hm⟩ : ∃ m, m = (pieces 10 text).length := ⟨_, rfl⟩
  rw [← hm] at HSp h3 hjl
  have hm2 : m ≤ 301 := by omega
  have hlb2 : (pieces 10 text)[j + 1]? = some lb := by rw [← mid_get (by omega)]; exact hlb
  have hbl : lb.length ≤ 1000 := by have := pieces_lens text lb (List.mem_of_getElem? hlb2); omega
  have HP := Lib.hid fun (W : World) => stage_p lb hbl hbad W
  have HG := Lib.hid (show ∀ (k : Nat), k < j → ∃ l s, (pieces 10 text)[k + 1]? = some l ∧ (∀ W, Calls Tryz.prog 117 #[.string (bs l)] W fun e w' => e = .returned (.agg #[.int .i64 s.dl, .int .i64 s.dh, .int .i64 s.ml, .int .i64 s.mh]) ∧ Below W.heap.size W w') ∧ t[k]? = some s from fun k hk => by
    have hmid := mid_get (text := text) (k := k) (by omega)
    obtain ⟨l, hl⟩ : ∃ l, (midL text)[k]? = some l := ⟨_, List.getElem?_eq_getElem (by rw [mid_len, ← hm]; omega)⟩
    obtain ⟨s, h1, h2⟩ := hget k l (by rw [List.getElem?_take, if_pos hk]; exact hl)
    rw [hmid] at hl
    have hll : l.length ≤ 1000 := by have := pieces_lens text l (List.mem_of_getElem? hl); omega
    refine ⟨l, s, hl, fun W => ?_, h2⟩
    unfold parseSt at h1
    split at h1
    · rename_i x a b c d hw
      split at h1
      · rename_i hb
        simp only [Bool.and_eq_true] at hb
        simp only [Option.some.injEq] at h1
        subst h1
        exact stage_c l hll x a b c d hw hb.1.1.1 hb.1.1.2 hb.1.2 hb.2 W
      · cases h1
    · cases h1)
  have HLB := Lib.hid hlb2
  clear hm hpa hget hpl hcb hlb hbad hgood hl1 hlb2 hbl
  have z1 : ¬ (m : Int) < 3 := by omega
  have z2 : IntKind.i64.wrap ((m : Int) - 2) = (m : Int) - 2 := wI (by omega) (by omega)
  have z3 : ¬ m = 1 := by omega
  go_enter Tryz.func82, Tryz.ntmps82
  go_wp2_with (go_at_call 116; refine (HSp.out _).mono ?_; rintro e w1 ⟨g, rfl, hsl, hb1⟩; have SL := Lib.hid hsl; have B1 := Lib.hid hb1; clear hsl hb1)
  have z4 : ((m : Int) - 2).toNat = m - 2 := by omega
  go_loopw [4, 20] (fun v i wr => ∃ k : Nat, k ≤ j ∧ i = .int .i64 k ∧ wr.ownsRow w1.heap.size 80 4 v k (flat St.cs (t.take k)) ∧ Below w1.heap.size w1 wr) (fun _ i _ => m - 3 - (intOf i).toNat)
  case atStart => exact ⟨0, by omega, rfl, World.ownsRow_nil _ _ _ _, Below.refl _ _⟩
  case round =>
    obtain ⟨k, hk, rfl, hO, hB⟩ := hrel
    have HO := Lib.hid hO; have HB := Lib.hid hB
    clear hO hB
    have hki : (k : Int) < (m : Int) - 2 - 1 := by omega
    have hkn : k < m - 3 := by omega
    by_cases hkj : k < j
    · obtain ⟨l, s, h1, h3, h4⟩ := HG.out k hkj
      have cl : wr.cell? ⟨g, 1 + k, none⟩ = some (.string (bs l)) := by
        have := (((SL.out.keep HB.out).range strC_len h1)) 0 _ rfl
        simpa [Nat.add_comm] using this
      have HSt := Lib.hid h3
      have HTk := Lib.hid (show t.take (k + 1) = t.take k ++ [s] by rw [List.take_add_one, h4]; rfl)
      clear h1 h3 h4
      obtain ⟨dl, dh, ml, mh⟩ := s
      simp only at HSt
      go_wp2_with (first
        | (go_at_call 117; refine (HSt.out _).mono ?_; rintro e w5 ⟨rfl, hb⟩; have HB5 := Lib.hid (newB (nextB HB.out hb) (.cells #[.int .i64 dl, .int .i64 dh, .int .i64 ml, .int .i64 mh] 80)); have HO5 := Lib.hid ((owns_keep HO.out hb).alloc (.cells #[.int .i64 dl, .int .i64 dh, .int .i64 ml, .int .i64 mh] 80)); clear hb)
        | (at_builtin; refine wpList_app29 rfl _ _ rfl w1.heap.size u4 k (t.take k) rfl HO5.out w5.heap.size ⟨dl, dh, ml, mh⟩ rfl (Has.new w5 80 _) (by omega) HB5.out.size ?_; intro v3 w6 ho3 hb3; have HO6 := Lib.hid ho3; have HB6 := Lib.hid (HB5.out.trans hb3); clear ho3 hb3))
      go_roundw
      case rel => exact ⟨k + 1, by omega, by go_num, by rw [HTk.out]; exact HO6.out, HB6.out⟩
      case measure => first | (simp [intOf]; done) | (simp [intOf]; omega)
    · have hkj2 : k = j := by omega
      subst hkj2
      have cl : wr.cell? ⟨g, 1 + k, none⟩ = some (.string (bs lb)) := by
        have := (((SL.out.keep HB.out).range strC_len HLB.out)) 0 _ rfl
        simpa [Nat.add_comm] using this
      have HBw := Lib.hid (nextB B1.out HB.out)
      go_wp2_with (go_at_call 117; refine (HP.out _).mono ?_; rintro e w5 ⟨rfl, hb⟩; have HB5 := Lib.hid (nextB HBw.out hb); clear hb)
      exact ⟨rfl, rfl, HB5.out⟩
theorem told_p (text : List UInt8) (hlen : text.length ≤ 300) (ht : toldF text = none) (w : World) (hI : ∀ x : Int, 0 ≤ x → x ≤ 1000 → ItoaOk w x) :
    Calls Tryz.prog 82 #[.string (bs text)] w fun e w' => e = .panicked noSlip ∧ Below w.heap.size w w' := by
  by_cases h3 : (pieces 10 text).length < 3
  · have HSp := Lib.hid fun (W : World) => split_c 10 text (by omega) W
    have z1 : ((pieces 10 text).length : Int) < 3 := by omega
    clear ht hI
    generalize (pieces 10 text).length = m at *
    go_enter Tryz.func82, Tryz.ntmps82
    go_wp2_with (go_at_call 116; refine (HSp.out _).mono ?_; rintro e w1 ⟨g, rfl, hsl, hb1⟩; have B1 := Lib.hid hb1; clear hsl hb1)
    exact ⟨rfl, rfl, B1.out⟩
  · cases hpa : parseAll (midL text) with
    | none => exact told_q text hlen h3 hpa w
    | some ss =>
      refine told_n text hlen ss h3 hpa (fun e => ?_) w hI
      unfold toldF at ht
      rw [if_neg h3, hpa] at ht
      simp only [e, if_true] at ht
      cases ht
end Go.Proofs
namespace Go.Proofs
open Go.RowKit Go.Shelf Gas
attribute [local go_sem ↓] Go.wp_at_zero Go.wp_at_succ

set_option maxRecDepth 50000 in
/-- Where something gave up with noSlip, attempt's deferred closure recovers, and lays the error of a text. -/
theorem catchS_c (g : Nat) (x : Int) (older : List PanicEntry) (w : World) (h : Has w g 34 #[.int .i64 x]) :
    CallsD Tryz.prog 115 #[.pointer (some ⟨g, 0, none⟩)] (.panicking ({ v := .iface 173 (.agg #[]), recovered := false } :: older)) w fun e u' w' =>
      (∃ v, e = .returned v) ∧ u' = .panicking ({ v := .iface 173 (.agg #[]), recovered := true } :: older) ∧ w' = (w.alloc (.cells #[] 173)).setCell ⟨g, 0, none⟩ (.int .i64 4) := by
  refine callsD_of_wpS Tryz.func115 rfl fun c₀ cs hu => ?_
  apply wpS_seq
  apply wpS_region
  simp [wpOpsS, go_sem, recoverD, hu, Tryz.ntmps115, Exit.thenS]
  refine wpS_of_wp ?_
  simp only [Array.replicate_succ, Array.replicate_zero, List.push_toArray, List.append_toArray, List.nil_append, List.cons_append, List.setIfInBounds_toArray, List.set_cons_zero, List.set_cons_succ]
  have hta1 : ∀ w : World, (Instr.typeAssert (.iface 173 (.agg #[])) 20 172 true).run Tryz.prog w = .ok (.tuple #[.agg #[], .bool false]) w := fun w => by
    simp [Instr.typeAssert, go_sem]
  have hta2 : ∀ w : World, (Instr.typeAssert (.iface 173 (.agg #[])) 20 173 true).run Tryz.prog w = .ok (.tuple #[.agg #[], .bool true]) w := fun w => by
    simp [Instr.typeAssert, go_sem]
  have hc := (h.alloc (.cells #[] 173)).cell
  have hf := (h.alloc (.cells #[] 173)).frozen
  go_wp2
  cases c₀
  simp_all [bodyPostS, results, Tryz.results115]

theorem attemptS_p (gc : FuncId) (cap : Array Value) (eg : ∀ args w, (callFunc gc args).run Tryz.prog w = .ok (.enter gc args) w) (w : World) (Rr : World → Prop)
    (hf : Calls Tryz.prog gc cap (w.alloc (.cells #[.int .i64 0] 34)) fun e w' => e = .panicked noSlip ∧ Rr w' ∧ Has w' w.heap.size 34 #[.int .i64 0]) :
    Calls Tryz.prog 80 #[.func (.func gc) #[] cap] w fun e w' => e = .returned (.int .i64 4) ∧ ∃ w1, Rr w1 ∧ Has w1 w.heap.size 34 #[.int .i64 0] ∧ w' = (w1.alloc (.cells #[] 173)).setCell ⟨w.heap.size, 0, none⟩ (.int .i64 4) := by
  have HF := Lib.hid hf
  clear hf
  have hmf : ∀ (fn : Fn) (first cap : Array Value) (w : World), (Instr.makeFunc fn first cap).run Tryz.prog w = .ok (.func fn first cap) w := fun _ _ _ _ => rfl
  unfold noSlip at HF
  go_enter_defers Tryz.func80, Tryz.ntmps80
  go_wp2_with (refine HF.out.mono ?_; rintro e w1 ⟨rfl, hR, hH⟩; have HR := Lib.hid hR; have HH := Lib.hid hH; have c1 := hH.cell; have f1 := hH.frozen; clear hR hH)
  refine leaves_cons (f := 115) (args := #[.pointer (some ⟨w.heap.size, 0, none⟩)]) (by simp) (by simp [go_sem]) ?_
  refine (catchS_c w.heap.size 0 [] w1 HH.out).mono ?_
  rintro e u' w'' ⟨⟨v', rfl⟩, rfl, rfl⟩
  have hq := ((HH.out.alloc (.cells #[] 173)).set 0 (.int .i64 4)).cell 0
  have hq' : ((w1.alloc (.cells #[] 173)).setCell ⟨w.heap.size, 0, none⟩ (.int .i64 4)).cell? ⟨w.heap.size, 0, none⟩ = some (.int .i64 4) := hq
  exact ⟨.int .i64 4, by simp [results, Tryz.results80, go_sem, hq'], rfl, w1, HR.out, HH.out, rfl⟩
end Go.Proofs
namespace Go.Proofs
open Go.RowKit Go.Shelf Gas
attribute [local go_sem ↓] Go.wp_at_zero Go.wp_at_succ

theorem SlOf.far {α : Type} {f : α → List Value} {sz n : Nat} {w : World} {A : Option Addr} {xs : List α} (h : SlOf f sz w A n xs) {p : Addr} (hA : ∀ ad, A = some ad → ad.block ≠ p.block) (u : Value) : SlOf f sz (w.setCell p u) A n xs := by
  refine ⟨h.1, h.2.1, fun hn => ?_⟩
  obtain ⟨b, o, e, hc⟩ := h.2.2 hn
  refine ⟨b, o, e, fun j v hv => ?_⟩
  have := hc j v hv
  have hh := Below.heap_setCell w p u b (hA _ e)
  rw [← this]
  simp [World.cell?, hh]
theorem read1_c (text : List UInt8) (hlen : text.length ≤ 300) (ss : List St) (ht : toldF text = some ss) (tb rb : Nat) (w : World) (hI : ∀ x : Int, 0 ≤ x → x ≤ 1000 → ItoaOk w x) (h1 : Has w tb 9 #[.string (bs text)]) (h2 : Has w rb 29 #[.slice none 0 0]) :
    Calls Tryz.prog 81 #[.pointer (some ⟨tb, 0, none⟩), .pointer (some ⟨rb, 0, none⟩)] w fun e w' => (∃ v, e = .returned v) ∧ ∃ w1 A c, Below w.heap.size w w1 ∧ SlOf St.cs 4 w1 A ss.length ss ∧ (A = none → c = 0) ∧ (∀ ad, A = some ad → w.heap.size ≤ ad.block) ∧ w' = w1.setCell ⟨rb, 0, none⟩ (.slice A ss.length c) := by
  have HT := Lib.hid (told_c text hlen ss ht w hI)
  have H2 := Lib.hid h2
  have ct := h1.cell 0
  clear ht hI h1 h2
  go_enter Tryz.func81, Tryz.ntmps81
  go_wp2_with (go_at_call 82; refine HT.out.mono ?_; rintro e w1 ⟨A, c, rfl, hs, hA, hf, hb⟩; have HS := Lib.hid hs; have HA := Lib.hid hA; have HF := Lib.hid hf; have HB := Lib.hid hb; have cr := (H2.out.after hb).cell; have cf := (H2.out.after hb).frozen; clear hs hA hf hb)
  go_end0
  exact ⟨⟨_, rfl⟩, w1, A, c, HB.out, HS.out, HA.out, HF.out, rfl⟩
theorem read1_p (text : List UInt8) (hlen : text.length ≤ 300) (ht : toldF text = none) (tb rb : Nat) (w : World) (hI : ∀ x : Int, 0 ≤ x → x ≤ 1000 → ItoaOk w x) (h1 : Has w tb 9 #[.string (bs text)]) :
    Calls Tryz.prog 81 #[.pointer (some ⟨tb, 0, none⟩), .pointer (some ⟨rb, 0, none⟩)] w fun e w' => e = .panicked noSlip ∧ Below w.heap.size w w' := by
  have HT := Lib.hid (told_p text hlen ht w hI)
  have ct := h1.cell 0
  clear ht hI h1
  go_enter Tryz.func81, Tryz.ntmps81
  go_wp2_with (go_at_call 82; refine HT.out.mono ?_; rintro e w1 ⟨rfl, hb⟩; have HB := Lib.hid hb; clear hb)
  exact ⟨rfl, rfl, HB.out⟩

/-- What Read answers: the stages, and the error. -/
def readF (text : List UInt8) : List St × Int := if 200 < text.length then ([], 3) else match toldF text with | none => ([], 4) | some ss => if diveB ss 0 then (ss, 0) else ([], 2)

set_option maxHeartbeats 2000000 in
set_option maxRecDepth 20000 in
theorem Read_c (text : List UInt8) (hlen : text.length ≤ 300) (w : World) (hI : ∀ x : Int, 0 ≤ x → x ≤ 1000 → ItoaOk w x) :
    Calls Tryz.prog 35 #[.string (bs text)] w fun e w' => ∃ A c, e = .returned (.tuple #[.slice A (readF text).1.length c, .int .i64 (readF text).2]) ∧ SlOf St.cs 4 w' A (readF text).1.length (readF text).1 ∧ (A = none → c = 0) ∧ Below w.heap.size w w' := by
  have T0 := Lib.hid (Has.new w 9 #[.string (bs text)])
  have B0 := Lib.hid (newB (Below.refl w.heap.size w) (.cells #[.string (bs text)] 9))
  by_cases h2 : 200 < text.length
  · have z1 : (200 : Int) < ((bs text).size : Int) := by rw [bs_size]; omega
    have HE := Lib.hid (show readF text = ([], 3) by simp [readF, h2])
    rw [HE.out]
    clear hI HE
    have ct := T0.out.cell 0
    go_enter Tryz.func35, Tryz.ntmps35
    go_wp2
    exact bodyPost_ret (results_tmp2 rfl _ _ _) rfl ⟨none, 0, rfl, SlOf.nil _ _ _, fun _ => rfl, B0.out⟩
  · have z1 : ¬ (200 : Int) < ((bs text).size : Int) := by rw [bs_size]; omega
    have T1 := Lib.hid (T0.out.alloc (.cells #[.slice none 0 0] 29))
    have R1 := Lib.hid (Has.new' (w.alloc (.cells #[.string (bs text)] 9)) 29 #[.slice none 0 0] (g := w.heap.size + 1) (by simp))
    have B1 := Lib.hid (newB B0.out (.cells #[.slice none 0 0] 29))
    have hsz : ((w.alloc (.cells #[.string (bs text)] 9)).alloc (.cells #[.slice none 0 0] 29)).heap.size = w.heap.size + 1 + 1 := by simp
    have hmf : ∀ (fn : Fn) (first cap : Array Value) (w : World), (Instr.makeFunc fn first cap).run Tryz.prog w = .ok (.func fn first cap) w := fun _ _ _ _ => rfl
    have ct := T0.out.cell 0
    cases ht : toldF text with
    | none =>
      have HE := Lib.hid (show readF text = ([], 4) by simp [readF, h2, ht])
      rw [HE.out]
      have HC := Lib.hid fun (W : World) (hb : Below w.heap.size w W) (hw : W.heap.size = w.heap.size + 1 + 1) (h1 : Has W w.heap.size 9 #[.string (bs text)]) =>
        attemptS_p 81 #[.pointer (some ⟨w.heap.size, 0, none⟩), .pointer (some ⟨w.heap.size + 1, 0, none⟩)] (enters_of Tryz.func81 (by kernel_rfl) rfl) W (fun w' => Below (W.alloc (.cells #[.int .i64 0] 34)).heap.size (W.alloc (.cells #[.int .i64 0] 34)) w')
          ((read1_p text hlen ht w.heap.size (w.heap.size + 1) (W.alloc (.cells #[.int .i64 0] 34)) (fun x a b => (hI x a b).keep (newB hb _)) (h1.alloc _)).mono fun e w' ⟨q1, q2⟩ => ⟨q1, q2, (Has.new W 34 _).after q2⟩)
      clear hI ht HE
      go_enter Tryz.func35, Tryz.ntmps35
      go_wp2_with (go_at_call 80; refine (HC.out _ B1.out hsz T1.out).mono ?_; rintro e w4 ⟨rfl, w1, hb1, hh1, rfl⟩; have hb2 := newB (Below.refl _ _) (.cells #[.int .i64 0] 34) |>.trans (hb1.mono (by simp)); have HB := Lib.hid (setB (newB (nextB B1.out hb2) (.cells #[] 173)) (p := ⟨w.heap.size + 1 + 1, 0, none⟩) (by show w.heap.size ≤ w.heap.size + 1 + 1; omega) (.int .i64 4)); clear hb1 hb2 hh1)
      exact bodyPost_ret (results_tmp2 rfl _ _ _) rfl ⟨none, 0, rfl, SlOf.nil _ _ _, fun _ => rfl, HB.out⟩
    | some ss =>
      have HE := Lib.hid (show readF text = if diveB ss 0 then (ss, 0) else ([], 2) by simp [readF, h2, ht])
      have hnl : ss.length ≤ 300 := by
        have hcb := pieces_bd 10 text
        have hpl := pieces_len 10 text
        unfold toldF at ht
        split at ht
        · cases ht
        · cases hpa : parseAll (midL text) with
          | none => rw [hpa] at ht; cases ht
          | some s2 =>
            rw [hpa] at ht
            simp only at ht
            split at ht
            · cases ht
              rw [(parseAll_get hpa).1, mid_len]; omega
            · cases ht
      have HC := Lib.hid fun (W : World) (hb : Below w.heap.size w W) (hw : W.heap.size = w.heap.size + 1 + 1) (h1 : Has W w.heap.size 9 #[.string (bs text)]) (hr : Has W (w.heap.size + 1) 29 #[.slice none 0 0]) =>
        attempt_c 81 #[.pointer (some ⟨w.heap.size, 0, none⟩), .pointer (some ⟨w.heap.size + 1, 0, none⟩)] (enters_of Tryz.func81 (by kernel_rfl) rfl) W (fun w' => ∃ w1 A c, Below (W.alloc (.cells #[.int .i64 0] 34)).heap.size (W.alloc (.cells #[.int .i64 0] 34)) w1 ∧ SlOf St.cs 4 w1 A ss.length ss ∧ (A = none → c = 0) ∧ (∀ ad, A = some ad → (W.alloc (.cells #[.int .i64 0] 34)).heap.size ≤ ad.block) ∧ w' = w1.setCell ⟨w.heap.size + 1, 0, none⟩ (.slice A ss.length c))
          ((read1_c text hlen ss ht w.heap.size (w.heap.size + 1) (W.alloc (.cells #[.int .i64 0] 34)) (fun x a b => (hI x a b).keep (newB hb _)) (h1.alloc _) (hr.alloc _)).mono fun e w' ⟨q1, w1, A, c, q2, q3, q4, q5, q6⟩ => ⟨q1, ⟨w1, A, c, q2, q3, q4, q5, q6⟩, by rw [q6]; exact ((Has.new W 34 _).after q2).far (by show W.heap.size ≠ w.heap.size + 1; omega) _⟩)
      have HDv := Lib.hid fun (A : Option Addr) (c : Nat) (W : World) (hs : SlOf St.cs 4 W A ss.length ss) => diveable_c A ss.length c ss 0 (by omega) (by omega) W hs
      clear hI ht
      generalize readF text = res at *
      cases hd : diveB ss 0
      all_goals
        rw [hd] at HDv HE
        clear hd
        go_enter Tryz.func35, Tryz.ntmps35
        go_wp2_with (first
          | (go_at_call 80; refine (HC.out _ B1.out hsz T1.out R1.out).mono ?_; rintro e w4 ⟨rfl, w2, ⟨w1, A, c, hb1, hs1, hA1, hf1, rfl⟩, rfl⟩; have hb2 := newB (Below.refl _ _) (.cells #[.int .i64 0] 34) |>.trans (hb1.mono (by simp)); have HB := Lib.hid (setB (setB (nextB B1.out hb2) (p := ⟨w.heap.size + 1, 0, none⟩) (by show w.heap.size ≤ w.heap.size + 1; omega) (.slice A ss.length c)) (p := ⟨w.heap.size + 1 + 1, 0, none⟩) (by show w.heap.size ≤ w.heap.size + 1 + 1; omega) (.int .i64 0)); have R2 := Lib.hid (((R1.out.after hb2).set 0 (.slice A ss.length c)).far (p := ⟨w.heap.size + 1 + 1, 0, none⟩) (by show w.heap.size + 1 ≠ w.heap.size + 1 + 1; omega) (.int .i64 0)); have HS1 := Lib.hid ((hs1.far (p := ⟨w.heap.size + 1, 0, none⟩) (fun ad h => by have := hf1 ad h; simp at this; show ad.block ≠ w.heap.size + 1; omega) (.slice A ss.length c)).far (p := ⟨w.heap.size + 1 + 1, 0, none⟩) (fun ad h => by have := hf1 ad h; simp at this; show ad.block ≠ w.heap.size + 1 + 1; omega) (.int .i64 0)); have HA1 := Lib.hid hA1; have cr := R2.out.cell; clear hb1 hb2 hs1 hA1 hf1)
          | (go_at_call 69; refine (HDv.out _ _ _ HS1.out).mono ?_; rintro e w6 ⟨rfl, hb⟩; have HB6 := Lib.hid (nextB HB.out hb); have HS6 := Lib.hid (HS1.out.keep hb); have cr6 := (R2.out.after hb).cell; clear hb))
      · exact bodyPost_ret (results_tmp2 rfl _ _ _) rfl ⟨none, 0, by rw [HE.out]; rfl, by rw [HE.out]; exact SlOf.nil _ _ _, fun _ => rfl, HB6.out⟩
      · exact bodyPost_ret (results_tmp2 rfl _ _ _) rfl ⟨A, c, by rw [HE.out]; rfl, by rw [HE.out]; exact HS6.out, HA1.out, HB6.out⟩
end Go.Proofs
