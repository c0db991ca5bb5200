/-
  The contract of Print holds where each number of the dive is written by strconv.
-/
import Derived.Shelf.Strings.Builder1
import Derived.Shelf.Strings.OnBuilder
import Derived.Shelf.LaysM
import Derived.Shelf.Strconv.Itoa3
import Derived.Test.YtahochgbkhpefabGreatDoorProg
import Derived.Test.YtahochgbkhpefabGreatDoorP7
import Derived.Laws.OwnMore
import Derived.Lib.AppendStr
namespace Go.Proofs
open Go.Shelf Go.RowKit Go.Sort Go.Lib
def Tryz.lays169_ren : Go.Shelf.Ren := ⟨fun | 169 => 113 | n => n, fun | 70 => 161 | 9 => 9 | 0 => 0 | 72 => 163 | 37 => 74 | 127 => 190 | 3 => 3 | 5 => 5 | n => n, fun | n => n⟩
theorem Tryz.lays169 : Go.Proofs.Lays.n169 Tryz.prog Tryz.lays169_ren := {
  mixed := by kernel_rfl
  f169 := Tryz.func113.trans (congrArg some (by kernel_rfl))
  t0 := Tryz.underlying0
  a0 := Tryz.isAgg0
  z0 := Tryz.sizeOf0
  v0 := Tryz.zeroValue0
  t3 := Tryz.underlying3
  a3 := Tryz.isAgg3
  z3 := Tryz.sizeOf3
  v3 := Tryz.zeroValue3
  t9 := Tryz.underlying9
  a9 := Tryz.isAgg9
  z9 := Tryz.sizeOf9
  v9 := Tryz.zeroValue9
  t37 := Tryz.underlying74
  a37 := Tryz.isAgg74
  z37 := Tryz.sizeOf74
  v37 := Tryz.zeroValue74
  t70 := Tryz.underlying161
  a70 := Tryz.isAgg161
  z70 := Tryz.sizeOf161
  v70 := Tryz.zeroValue161
  t72 := Tryz.underlying163
  a72 := Tryz.isAgg163
  z72 := Tryz.sizeOf163
  v72 := Tryz.zeroValue163
  t127 := Tryz.underlying190
  a127 := Tryz.isAgg190
  z127 := Tryz.sizeOf190
  v127 := Tryz.zeroValue190 }
theorem Tryz.Builder_Extra_169 : Builder.Extra Tryz.prog Tryz.lays169_ren := {
  sizeBuilder := by kernel_rfl
  liesBuilder := by kernel_rfl
  t5 := Tryz.underlying5
  a5 := Tryz.isAgg5
  z5 := Tryz.sizeOf5
  v5 := Tryz.zeroValue5
  infoByte := by kernel_rfl
  cellsByte := by kernel_rfl
  sizeByte := by kernel_rfl
  neB5 := by decide }
theorem Tryz.Builder_String (B b : Nat) (l : List UInt8) (w : World) (h : Lib.IsBuilder 163 5 B b (Lib.byteCells l) w) (h0 : l ≠ []) :
    Calls Tryz.prog 113 #[.pointer (some ⟨b, 0, none⟩)] w fun e w' => e = .returned (.string ⟨l.toArray⟩) ∧ Below B w w' := Any.Builder_String Tryz.lays169 Tryz.Builder_Extra_169 B b l w h h0
def Tryz.lays156_ren : Go.Shelf.Ren := ⟨fun | 156 => 131 | 165 => 139 | 166 => 111 | 169 => 113 | 240 => 129 | 241 => 145 | 276 => 137 | 277 => 154 | n => n, fun | 31 => 133 | 9 => 9 | 3 => 3 | 4 => 4 | 0 => 0 | 20 => 20 | 72 => 163 | 76 => 166 | 70 => 161 | 37 => 74 | 75 => 165 | 127 => 190 | 164 => 193 | 5 => 5 | 80 => 169 | n => n, fun | n => n⟩
theorem Tryz.lays156 : Go.Proofs.Lays.n156 Tryz.prog Tryz.lays156_ren := {
  mixed := by kernel_rfl
  f156 := Tryz.func131.trans (congrArg some (by kernel_rfl))
  f165 := Tryz.func139.trans (congrArg some (by kernel_rfl))
  f166 := Tryz.func111.trans (congrArg some (by kernel_rfl))
  f169 := Tryz.func113.trans (congrArg some (by kernel_rfl))
  f240 := Tryz.func129.trans (congrArg some (by kernel_rfl))
  f241 := Tryz.func145.trans (congrArg some (by kernel_rfl))
  f276 := Tryz.func137.trans (congrArg some (by kernel_rfl))
  f277 := Tryz.func154.trans (congrArg some (by kernel_rfl))
  t0 := Tryz.underlying0
  a0 := Tryz.isAgg0
  z0 := Tryz.sizeOf0
  v0 := Tryz.zeroValue0
  t3 := Tryz.underlying3
  a3 := Tryz.isAgg3
  z3 := Tryz.sizeOf3
  v3 := Tryz.zeroValue3
  t4 := Tryz.underlying4
  a4 := Tryz.isAgg4
  z4 := Tryz.sizeOf4
  v4 := Tryz.zeroValue4
  t9 := Tryz.underlying9
  a9 := Tryz.isAgg9
  z9 := Tryz.sizeOf9
  v9 := Tryz.zeroValue9
  t20 := Tryz.underlying20
  a20 := Tryz.isAgg20
  z20 := Tryz.sizeOf20
  v20 := Tryz.zeroValue20
  t31 := Tryz.underlying133
  a31 := Tryz.isAgg133
  z31 := Tryz.sizeOf133
  v31 := Tryz.zeroValue133
  t37 := Tryz.underlying74
  a37 := Tryz.isAgg74
  z37 := Tryz.sizeOf74
  v37 := Tryz.zeroValue74
  t70 := Tryz.underlying161
  a70 := Tryz.isAgg161
  z70 := Tryz.sizeOf161
  v70 := Tryz.zeroValue161
  t72 := Tryz.underlying163
  a72 := Tryz.isAgg163
  z72 := Tryz.sizeOf163
  v72 := Tryz.zeroValue163
  t75 := Tryz.underlying165
  a75 := Tryz.isAgg165
  z75 := Tryz.sizeOf165
  v75 := Tryz.zeroValue165
  t76 := Tryz.underlying166
  a76 := Tryz.isAgg166
  z76 := Tryz.sizeOf166
  v76 := Tryz.zeroValue166
  t127 := Tryz.underlying190
  a127 := Tryz.isAgg190
  z127 := Tryz.sizeOf190
  v127 := Tryz.zeroValue190
  t164 := Tryz.underlying193
  a164 := Tryz.isAgg193
  z164 := Tryz.sizeOf193
  v164 := Tryz.zeroValue193 }
theorem Tryz.Builder_Extra_156 : Builder.Extra Tryz.prog Tryz.lays156_ren := {
  sizeBuilder := by kernel_rfl
  liesBuilder := by kernel_rfl
  t5 := Tryz.underlying5
  a5 := Tryz.isAgg5
  z5 := Tryz.sizeOf5
  v5 := Tryz.zeroValue5
  infoByte := by kernel_rfl
  cellsByte := by kernel_rfl
  sizeByte := by kernel_rfl
  neB5 := by decide }
theorem Tryz.strings_Join (bk o c : Nat) (xs : List ByteArray) (sep : ByteArray) (w : World) (hcells : ∀ (j : Nat) x, xs[j]? = some x → w.cell? ⟨bk, o + j, none⟩ = some (.string x)) (hbk : bk < w.heap.size) (hN : xs.length ≤ 140737488355328) (hcap : xs.length ≤ c) (hlen : (Lib.join (xs.map (·.data.toList)) sep.data.toList).length ≤ 140737488355328) :
    Calls Tryz.prog 131 #[.slice (some ⟨bk, o, none⟩) xs.length c, .string sep] w fun e w' => e = .returned (.string ⟨(Lib.join (xs.map (·.data.toList)) sep.data.toList).toArray⟩) ∧ Below w.heap.size w w' := Any.strings_Join Tryz.lays156 Tryz.Builder_Extra_156 bk o c xs sep w hcells hbk hN hcap hlen
def Tryz.lays171_ren : Go.Shelf.Ren := ⟨fun | 171 => 130 | 243 => 138 | 246 => 144 | 283 => 150 | 284 => 151 | 285 => 152 | 286 => 153 | 129 => 161 | 317 => 160 | 318 => 162 | 319 => 163 | 320 => 164 | 337 => 167 | 338 => 168 | n => n, fun | 3 => 3 | 9 => 9 | 2 => 2 | 4 => 4 | 171 => 202 | 0 => 0 | 53 => 203 | 37 => 74 | 5 => 5 | 173 => 206 | 212 => 211 | 51 => 212 | 20 => 20 | 213 => 213 | 46 => 209 | 232 => 222 | 233 => 223 | n => n, fun | 17 => 1 | 18 => 4 | 19 => 5 | n => n⟩
theorem Tryz.lays171 : Go.Proofs.Lays.n171 Tryz.prog Tryz.lays171_ren := {
  mixed := by kernel_rfl
  f129 := Tryz.func161.trans (congrArg some (by kernel_rfl))
  f171 := Tryz.func130.trans (congrArg some (by kernel_rfl))
  f243 := Tryz.func138.trans (congrArg some (by kernel_rfl))
  f246 := Tryz.func144.trans (congrArg some (by kernel_rfl))
  f283 := Tryz.func150.trans (congrArg some (by kernel_rfl))
  f284 := Tryz.func151.trans (congrArg some (by kernel_rfl))
  f285 := Tryz.func152.trans (congrArg some (by kernel_rfl))
  f286 := Tryz.func153.trans (congrArg some (by kernel_rfl))
  f317 := Tryz.func160.trans (congrArg some (by kernel_rfl))
  f318 := Tryz.func162.trans (congrArg some (by kernel_rfl))
  f319 := Tryz.func163.trans (congrArg some (by kernel_rfl))
  f320 := Tryz.func164.trans (congrArg some (by kernel_rfl))
  f337 := Tryz.func167.trans (congrArg some (by kernel_rfl))
  f338 := Tryz.func168.trans (congrArg some (by kernel_rfl))
  t0 := Tryz.underlying0
  a0 := Tryz.isAgg0
  z0 := Tryz.sizeOf0
  v0 := Tryz.zeroValue0
  t2 := Tryz.underlying2
  a2 := Tryz.isAgg2
  z2 := Tryz.sizeOf2
  v2 := Tryz.zeroValue2
  t3 := Tryz.underlying3
  a3 := Tryz.isAgg3
  z3 := Tryz.sizeOf3
  v3 := Tryz.zeroValue3
  t4 := Tryz.underlying4
  a4 := Tryz.isAgg4
  z4 := Tryz.sizeOf4
  v4 := Tryz.zeroValue4
  t5 := Tryz.underlying5
  a5 := Tryz.isAgg5
  z5 := Tryz.sizeOf5
  v5 := Tryz.zeroValue5
  t9 := Tryz.underlying9
  a9 := Tryz.isAgg9
  z9 := Tryz.sizeOf9
  v9 := Tryz.zeroValue9
  t20 := Tryz.underlying20
  a20 := Tryz.isAgg20
  z20 := Tryz.sizeOf20
  v20 := Tryz.zeroValue20
  t37 := Tryz.underlying74
  a37 := Tryz.isAgg74
  z37 := Tryz.sizeOf74
  v37 := Tryz.zeroValue74
  t46 := Tryz.underlying209
  a46 := Tryz.isAgg209
  z46 := Tryz.sizeOf209
  v46 := Tryz.zeroValue209
  t51 := Tryz.underlying212
  a51 := Tryz.isAgg212
  z51 := Tryz.sizeOf212
  v51 := Tryz.zeroValue212
  t53 := Tryz.underlying203
  a53 := Tryz.isAgg203
  z53 := Tryz.sizeOf203
  v53 := Tryz.zeroValue203
  t171 := Tryz.underlying202
  a171 := Tryz.isAgg202
  z171 := Tryz.sizeOf202
  v171 := Tryz.zeroValue202
  t173 := Tryz.underlying206
  a173 := Tryz.isAgg206
  z173 := Tryz.sizeOf206
  v173 := Tryz.zeroValue206
  t212 := Tryz.underlying211
  a212 := Tryz.isAgg211
  z212 := Tryz.sizeOf211
  v212 := Tryz.zeroValue211
  t213 := Tryz.underlying213
  a213 := Tryz.isAgg213
  z213 := Tryz.sizeOf213
  t232 := Tryz.underlying222
  a232 := Tryz.isAgg222
  z232 := Tryz.sizeOf222
  v232 := Tryz.zeroValue222
  t233 := Tryz.underlying223
  a233 := Tryz.isAgg223
  z233 := Tryz.sizeOf223
  v233 := Tryz.zeroValue223
  g17 := by kernel_rfl
  g18 := by kernel_rfl
  g19 := by kernel_rfl }
theorem Tryz.strconv_Itoa_small (i : Nat) (hi : i < 100) (w : World) :
    Calls Tryz.prog 130 #[.int .i64 i] w fun e w' => e = .returned (.string ⟨(Lib.decDigits i).toArray⟩) ∧ w' = w := Any.strconv_Itoa_small Tryz.lays171 i hi w
end Go.Proofs
namespace Go.Proofs.Gas

/-- What a row of numbers adds to the check, from place k on. -/
def rowS (i : Int) : Int → List Int → Int
  | _, [] => 0
  | k, x :: r => i * (k + 1) * x + rowS i (k + 1) r
def totS : Int → List (List Int) → Int
  | _, [] => 0
  | i, r :: l => rowS (i + 1) 0 r + totS (i + 1) l
theorem rowS_snoc (i y : Int) : ∀ (xs : List Int) (k : Int), rowS i k (xs ++ [y]) = rowS i k xs + i * (k + xs.length + 1) * y
  | [], k => by simp [rowS]
  | x :: r, k => by
    simp only [List.cons_append, rowS, rowS_snoc i y r (k + 1), List.length_cons]
    have : k + 1 + (r.length : Int) + 1 = k + ((r.length + 1 : Nat) : Int) + 1 := by omega
    rw [this]; omega
theorem totS_snoc (y : List Int) : ∀ (xs : List (List Int)) (i : Int), totS i (xs ++ [y]) = totS i xs + rowS (i + xs.length + 1) 0 y
  | [], i => by simp [totS]
  | x :: r, i => by
    simp only [List.cons_append, totS, totS_snoc y r (i + 1), List.length_cons]
    have : i + 1 + (r.length : Int) + 1 = i + ((r.length + 1 : Nat) : Int) + 1 := by omega
    rw [this]; omega
theorem term_bd {i k x : Int} (hi : 0 ≤ i ∧ i ≤ 1001) (hk : 0 ≤ k ∧ k ≤ 1001) (hx : 0 ≤ x ∧ x ≤ 10000) : (0 ≤ i * k ∧ i * k ≤ 1002001) ∧ 0 ≤ i * k * x ∧ i * k * x ≤ 10020010000 := by
  have h1 : 0 ≤ i * k := Int.mul_nonneg hi.1 hk.1
  have h2 : i * k ≤ 1001 * 1001 := Int.mul_le_mul hi.2 hk.2 hk.1 (by omega)
  have h3 : 0 ≤ i * k * x := Int.mul_nonneg h1 hx.1
  have h4 : i * k * x ≤ 1002001 * 10000 := Int.mul_le_mul (by omega) hx.2 hx.1 (by omega)
  omega
theorem rowS_bd {i : Int} (hi : 0 ≤ i ∧ i ≤ 1001) : ∀ (xs : List Int) (k : Int), 0 ≤ k → k + xs.length ≤ 1000 → (∀ x ∈ xs, 0 ≤ x ∧ x ≤ 10000) → 0 ≤ rowS i k xs ∧ rowS i k xs ≤ xs.length * 10020010000
  | [], _, _, _, _ => by simp [rowS]
  | x :: r, k, h0, h1, h => by
    simp only [List.length_cons] at h1 ⊢
    have a := rowS_bd hi r (k + 1) (by omega) (by omega) (fun y hy => h y (List.mem_cons_of_mem _ hy))
    have b := term_bd (i := i) (k := k + 1) (x := x) hi (by omega) (h x (List.mem_cons_self ..))
    simp only [rowS]
    omega
theorem totS_bd : ∀ (xs : List (List Int)) (i : Int), 0 ≤ i → i + xs.length ≤ 1000 → (∀ r ∈ xs, r.length ≤ 1000 ∧ ∀ x ∈ r, 0 ≤ x ∧ x ≤ 10000) → 0 ≤ totS i xs ∧ totS i xs ≤ xs.length * 10020010000000
  | [], _, _, _, _ => by simp [totS]
  | r :: l, i, h0, h1, h => by
    simp only [List.length_cons] at h1 ⊢
    have a := totS_bd l (i + 1) (by omega) (by omega) (fun y hy => h y (List.mem_cons_of_mem _ hy))
    obtain ⟨hl, hx⟩ := h r (List.mem_cons_self ..)
    have b := rowS_bd (i := i + 1) (by omega) r 0 (by omega) (by omega) hx
    simp only [totS]
    omega
end Go.Proofs.Gas
namespace Go.Proofs
open Go.RowKit Go.Shelf Gas
attribute [local go_sem ↓] Go.wp_at_zero Go.wp_at_succ

theorem info182 : ∃ j, Tryz.prog.info? 163 = some j ∧ j.size = 2 := by
  have h : (Tryz.prog.info? 163).isSome = true := by kernel_rfl
  exact ⟨(Tryz.prog.info? 163).get h, (Option.some_get _).symm, by kernel_rfl⟩

set_option maxHeartbeats 2000000 in
set_option maxRecDepth 100000 in
theorem copyCheck_c (B b : Nat) (l : List Value) (w : World) (h : Lib.IsBuilder 163 5 B b l w) :
    Calls Tryz.prog 129 #[.pointer (some ⟨b, 0, none⟩)] w fun e w' => e = .returned (.tuple #[]) ∧ Lib.BuilderAt 163 5 B b (.pointer (some ⟨b, 0, none⟩)) l w' ∧ Below B w w' := by
  obtain ⟨j, hj, hjs⟩ := info182
  rcases h with h | h
  · have H := Lib.hid h
    have c0 := h.cell0; have f0 := h.frozen0; have hsh := Lib.hid h.shape
    have hB := h.1
    clear h
    go_enter Tryz.func129, Tryz.ntmps129
    go_wp2
    rw [Lib.run_to_unsafe w ⟨b, 0, none⟩ Tryz.underlying161 Tryz.underlying193 hj (by rw [hjs]; decide) hsh.out (Nat.zero_lt_succ 1)]
    simp only [Result.andThen]
    rw [Oper.upon_value]
    go_wp2
    rw [run_callFunc_extern Tryz.func137 (by kernel_rfl) (by kernel_rfl) (by kernel_rfl) (e := Extern.AbiNoEscape.same) (by kernel_rfl)]
    rw [Lib.run_noEscape]
    simp only [Result.andThen]
    rw [Oper.upon_value]
    go_wp2
    rw [Lib.run_from_unsafe w ⟨b, 0, none⟩ Tryz.underlying193 Tryz.underlying161 hj hsh.out (by kernel_rfl)]
    simp only [Result.andThen]
    rw [Oper.upon_value]
    go_wp2
    go_end0
    exact ⟨rfl, H.out.used _, (Below.refl _ _).setCell (p := ⟨b, 0, none⟩) hB _⟩
  · have H := Lib.hid h
    have c0 := h.cell0; have f0 := h.frozen0
    clear h
    go_enter Tryz.func129, Tryz.ntmps129
    go_wp2
    rw [Lib.run_neq_ptr_same w _ Tryz.underlying161 hj]
    go_wp2
    go_end0
    exact ⟨rfl, H.out, Below.refl _ _⟩

theorem info5 : ∃ i, Tryz.prog.info? 5 = some i ∧ i.zero = some (.int .u8 0) ∧ i.bytes = 1 ∧ i.size = 1 := by
  have h : (Tryz.prog.info? 5).isSome = true := by kernel_rfl
  exact ⟨(Tryz.prog.info? 5).get h, (Option.some_get _).symm, by kernel_rfl, by kernel_rfl, by kernel_rfl⟩

set_option maxHeartbeats 2000000 in
set_option maxRecDepth 100000 in
theorem writeString_c (B b : Nat) (l : List Value) (s : ByteArray) (w : World) (h : Lib.IsBuilder 163 5 B b l w) (hlen : l.length + s.size ≤ 1000000000) (hBw : B ≤ w.heap.size) :
    Calls Tryz.prog 111 #[.pointer (some ⟨b, 0, none⟩), .string s] w fun e w' => e = .returned (.tuple #[.int .i64 s.size, .nilIface]) ∧ Lib.IsBuilder 163 5 B b (l ++ Lib.strCells s) w' ∧ Below B w w' := by
  obtain ⟨i, hi, hz, hby, hsz⟩ := info5
  go_enter Tryz.func111, Tryz.ntmps111
  go_wp2_with (go_at_call 129; refine (copyCheck_c B b l _ h).mono ?_)
  rintro e w1 ⟨rfl, h1, hb1⟩
  obtain ⟨hB, v, hbk, hown, hne⟩ := h1
  have hlt : b < w1.heap.size := (Array.getElem?_eq_some_iff.1 hbk).1
  have hz1 := hb1.size
  have c0 : w1.cell? ⟨b, 0, none⟩ = some (.pointer (some ⟨b, 0, none⟩)) := by rw [Lib.cell_of_heap hbk]; rfl
  have c1 : w1.cell? ⟨b, 1, none⟩ = some v := by rw [Lib.cell_of_heap hbk]; rfl
  go_wp2_with (at_builtin; refine Lib.wpList_append_own_string _ rfl _ _ 74 9 rfl B 5 i (by kernel_rfl) (by kernel_rfl) hi hz hsz hby _ _ _ rfl hown s rfl (by unfold maxLen; omega) (by omega) (by omega) ?_)
  intro v' w2 hown' hgrow _
  have hb2 : w2.heap[b]? = some (.cells #[.pointer (some ⟨b, 0, none⟩), v] 163 (0, 0)) := by
    rw [hgrow.block b hlt (fun e => hne e.symm)]
    exact hbk
  have d0 : w2.cell? ⟨b, 0, none⟩ = some (.pointer (some ⟨b, 0, none⟩)) := by rw [Lib.cell_of_heap hb2]; rfl
  have d1 : w2.cell? ⟨b, 1, none⟩ = some v := by rw [Lib.cell_of_heap hb2]; rfl
  have f1 : w2.frozen? ⟨b, 1, none⟩ = false := Lib.frozen_of_heap hb2 1
  obtain ⟨ao, n', cap, rfl⟩ : ∃ ao n' cap, v' = .slice ao n' cap := by
    rcases hown'.2 with ⟨hv, _⟩ | ⟨g, cap, cur, hv, _⟩
    · exact ⟨_, _, _, hv⟩
    · exact ⟨_, _, _, hv⟩
  go_wp2
  go_ret2
  refine ⟨rfl, .inr ?_, ?_⟩
  · exact Lib.BuilderAt.put hB hb2 (by simpa [Lib.strCells_length] using hown') (by decide)
  · exact (hb1.grown hgrow (by omega) (fun k hk => (hown.lt k hk).1)).setCell (p := ⟨b, 1, none⟩) hB _
end Go.Proofs
namespace Go.Proofs
open Go.RowKit Go.Shelf Gas
attribute [local go_sem ↓] Go.wp_at_zero Go.wp_at_succ

/-- A string of some bytes. -/
def bs (l : List UInt8) : ByteArray := ⟨l.toArray⟩
theorem bs_app (a b : List UInt8) : bs a ++ bs b = bs (a ++ b) := by
  apply ByteArray.ext; simp [bs, ByteArray.data_append]
theorem bs_list (l : List UInt8) : (bs l).data.toList = l := by simp [bs]
theorem bs_size (l : List UInt8) : (bs l).size = l.length := by simp [bs, ByteArray.size]
def strC (l : List UInt8) : List Value := [.string (bs l)]
theorem strC_len (x : List UInt8) : (strC x).length = 1 := rfl
/-- The line of a word and some numbers. -/
def wrL (word : List UInt8) (ns : List Int) : List UInt8 := Lib.join (word :: ns.map Lib.itoa) [32] ++ [10]

theorem info9 : ∃ i, Tryz.prog.info? 9 = some i ∧ i.zero = some (.string (bs [])) ∧ i.bytes = 16 ∧ i.size = 1 := by
  have h : (Tryz.prog.info? 9).isSome = true := by kernel_rfl
  exact ⟨(Tryz.prog.info? 9).get h, (Option.some_get _).symm, by kernel_rfl, by kernel_rfl, by kernel_rfl⟩

theorem wpList_app205 {ops : Array Oper} {rest : List Oper} {o : Oper} {a : Act} {w : World} {Q : Exit → Act → World → Prop} (hgd : o.guard = none) (s x : Operand)
    (ho : o.op = .call { callee := .builtin .append, args := #[s, x], argTypes := #[133, 133] })
    (base : Nat) (v : Value) (xs : List (List UInt8)) (hs : a.eval s = v) (hown : w.ownsRow base 9 1 v xs.length (flat strC xs)) (hlen : xs.length ≤ 1000000)
    (b : Nat) (y : List UInt8) (hx : a.eval x = .slice (some ⟨b, 0, none⟩) 1 1) (hb : Has w b 9 #[.string (bs y)]) (hbase : base ≤ w.heap.size)
    (h : ∀ v' w', w'.ownsRow base 9 1 v' (xs ++ [y]).length (flat strC (xs ++ [y])) → Below base w w' → Spares w w' 9 → wpList Tryz.prog ops Q rest (a.put o.dst v') w') : wpList Tryz.prog ops Q (o :: rest) a w := by
  obtain ⟨i, hi, hz, hby, hsz⟩ := info9
  refine wpList_append_own w hgd s x 133 ho base 9 i _ 1 16 (by kernel_rfl) hi hz hsz hby rfl (by omega) v xs.length _ hs hown ⟨b, 0, none⟩ 1 1 [.string (bs y)] hx rfl ?_ (by simp [Value.oneCell']) (by unfold maxLen; omega) (by omega) hbase
    (fun v' w' e1 e2 _ => h v' w' (by rw [flat_append]; simpa [flat, strC] using e1) (below_grown e2 (fun r hr => (hown.lt r hr).1) hbase) (Spares.of_grown hown e2))
  intro j u hu
  have hadd : (⟨b, 0, none⟩ : Addr).add j = ⟨b, j, none⟩ := by unfold Addr.add; split <;> simp_all
  rw [hadd, hb.cell j]
  simpa using hu

theorem flat_strC : ∀ xs : List (List UInt8), flat strC xs = xs.map fun l => Value.string (bs l)
  | [] => rfl
  | x :: r => by simp [flat, strC, flat_strC r]
/-- What strconv.Itoa yields of a number, in this world and all that keep it. -/
def ItoaOk (w : World) (n : Int) : Prop := ∀ w', Below w.heap.size w w' → Calls Tryz.prog 130 #[.int .i64 n] w' fun e w2 => e = .returned (.string (bs (Lib.itoa n))) ∧ Below w'.heap.size w' w2
theorem ItoaOk.keep {w w' : World} {n : Int} (h : ItoaOk w n) (hb : Below w.heap.size w w') : ItoaOk w' n := fun w2 h2 => h w2 (nextB hb h2)
theorem itoa_small (w : World) (n : Int) (h : 0 ≤ n ∧ n < 100) : ItoaOk w n := by
  obtain ⟨i, rfl⟩ : ∃ i : Nat, n = i := ⟨n.toNat, by omega⟩
  intro w' _
  refine (Tryz.strconv_Itoa_small i (by omega) w').mono fun e w2 ⟨he, hw⟩ => ⟨?_, by rw [hw]; exact Below.refl _ _⟩
  rw [he, Lib.itoa_nonneg]; rfl

set_option maxHeartbeats 1000000 in
theorem written_c (word : List UInt8) (A : Option Addr) (n c : Nat) (ns : List Int) (hn : n ≤ 1000) (w : World) (hs : SlOf inC 1 w A n ns) (hI : ∀ x ∈ ns, ItoaOk w x) (hl : (wrL word ns).length ≤ 1000000) :
    Calls Tryz.prog 112 #[.string (bs word), .slice A n c] w fun e w' => e = .returned (.string (bs (wrL word ns))) ∧ Below w.heap.size w w' := by
  have HS := Lib.hid hs; have HN := Lib.hid hs.1; have HI := Lib.hid hI; have HLn := Lib.hid hl
  clear hs hI hl
  have H0 := Lib.hid (show (w.alloc (.cells #[.string (bs word)] 9)).ownsRow w.heap.size 9 1 (.slice (some ⟨w.heap.size, 0, none⟩) 1 1) (word :: (ns.take 0).map Lib.itoa).length (flat strC (word :: (ns.take 0).map Lib.itoa)) from World.ownsRow_lit _ _ 1 (Nat.le_refl _) (by unfold maxLen; omega) rfl)
  have B0 := Lib.hid (newB (Below.refl w.heap.size w) (.cells #[.string (bs word)] 9))
  go_enter Tryz.func112, Tryz.ntmps112
  go_wp2
  go_loopw [5, 12] (fun v i wr => ∃ k : Nat, k ≤ n ∧ i = .int .i64 k ∧ wr.ownsRow w.heap.size 9 1 v (word :: (ns.take k).map Lib.itoa).length (flat strC (word :: (ns.take k).map Lib.itoa)) ∧ Below w.heap.size w wr) (fun _ i _ => n - (intOf i).toNat)
  case atStart => exact ⟨0, by omega, rfl, H0.out, B0.out⟩
  case round =>
    obtain ⟨k, hk, rfl, hO, hB⟩ := hrel
    have HB := Lib.hid hB; have HO := Lib.hid hO
    clear hB hO
    by_cases hkn : k < n
    · have hkl : k < ns.length := by rw [HN.out]; exact hkn
      obtain ⟨b, o, he⟩ := HS.out.addr (by omega)
      have hx := List.getElem?_eq_getElem hkl
      have HT := Lib.hid (List.take_append_getElem hkl)
      have hio := HI.out _ (List.getElem_mem hkl)
      obtain ⟨x, hxx⟩ : ∃ x, x = ns[k] := ⟨_, rfl⟩
      rw [← hxx] at hx HT hio
      subst he
      have hR := Lib.hid ((HS.out.keep HB.out).range inC_len hx)
      replace hR := Lib.hid (show wr.rangeAt b (o + k * 1) [.int .i64 x] from hR.out)
      have hcell : wr.cell? ⟨b, o + k, none⟩ = some (.int .i64 x) := by have := hR.out 0 _ rfl; simpa using this
      have HIx := Lib.hid (hio wr HB.out)
      have HTs := Lib.hid (show word :: (ns.take (k + 1)).map Lib.itoa = (word :: (ns.take k).map Lib.itoa) ++ [Lib.itoa x] by rw [← HT.out]; simp)
      have hlk : (word :: (ns.take k).map Lib.itoa).length ≤ 1000000 := by simp; omega
      clear hx hxx hio hR
      go_wp2_with (first
        | (go_at_call 130; refine HIx.out.mono ?_; rintro e w3 ⟨rfl, hb⟩; have HB3 := Lib.hid (nextB HB.out hb); have HO3 := Lib.hid (owns_keep HO.out hb); clear hb)
        | (at_builtin; refine wpList_app205 rfl _ _ rfl w.heap.size u5 _ rfl (HO3.out.alloc _) hlk w3.heap.size (Lib.itoa x) rfl (Has.new w3 9 _) (newB HB3.out _).size ?_; intro v5 w5 ho5 hb5 _; have HO5 := Lib.hid ho5; have HB5 := Lib.hid ((newB HB3.out _).trans hb5); clear ho5 hb5))
      go_roundw
      case rel => exact ⟨k + 1, by omega, by go_num, by rw [HTs.out]; exact HO5.out, HB5.out⟩
      case measure => simp [intOf]; omega
    · have hke : k = n := by omega
      subst hke
      have ho := HO.out
      rw [List.take_of_length_le (by rw [HN.out]; exact Nat.le_refl _)] at ho
      have hN1 : (word :: ns.map Lib.itoa).length ≤ 1001 := by have := HN.out; simp; omega
      have hfl : flat strC (word :: ns.map Lib.itoa) = (word :: ns.map Lib.itoa).map fun l => Value.string (bs l) := flat_strC _
      obtain ⟨S, hS⟩ : ∃ S, S = word :: ns.map Lib.itoa := ⟨_, rfl⟩
      have HE := Lib.hid (show wrL word ns = Lib.join S [32] ++ [10] by rw [hS]; rfl)
      rw [← hS] at ho hN1 hfl
      have HLn2 := HLn.out
      rw [HE.out] at HLn2
      have hSl : S.length ≠ 0 := by rw [hS]; simp
      clear hS HLn
      rcases ho.2 with ⟨_, h⟩ | ⟨g, cap, cur, e1, h2, h3, h4, h5, h6, h7⟩
      · exact absurd h hSl
      · have HJ := Lib.hid (show Calls Tryz.prog 131 #[.slice (some ⟨g, 0, none⟩) S.length cap, .string ⟨#[32]⟩] wr fun e w' => e = .returned (.string (bs (Lib.join S [32]))) ∧ Below wr.heap.size wr w' from by
          have := Tryz.strings_Join g 0 cap (S.map bs) ⟨#[32]⟩ wr (fun j x hx => by
            rw [List.getElem?_map, Option.map_eq_some_iff] at hx
            obtain ⟨l, hl, rfl⟩ := hx
            have hj : j < S.length := (List.getElem?_eq_some_iff.1 hl).1
            have hcur : cur.toList[j]? = some (.string (bs l)) := by
              have : (cur.toList.take (S.length * 1))[j]? = some (.string (bs l)) := by rw [h7, hfl]; simp [hl]
              rw [List.getElem?_take] at this
              split at this
              · exact this
              · cases this
            have := (Has.cell (w := wr) (g := g) (t := 9) (cs := cur) h3 j)
            rw [Nat.zero_add, this, ← Array.getElem?_toList]
            exact hcur) (Array.getElem?_eq_some_iff.1 h3).1 (by simp; omega) (by simpa using h4) (by
            have : (Lib.join S [32] ++ [10]).length ≤ 1000000 := HLn2
            simp at this
            simp [bs_list, Function.comp_def]; omega)
          simp [bs_list, Function.comp_def] at this
          exact this)
        subst e1
        have hz : (bs (Lib.join S [32])).size ≤ 1000000 := by rw [bs_size]; simp at HLn2; omega
        clear h2 h3 h4 h5 h6 h7 ho hN1 hfl hSl HLn2
        generalize S.length = N at *
        go_wp2_with (go_at_call 131; refine HJ.out.mono ?_; rintro e w6 ⟨rfl, hb6⟩; have HB6 := Lib.hid (nextB HB.out hb6); clear hb6)
        exact bodyPost_ret (results_tmp rfl _ _ _) rfl ⟨by rw [HE.out, ← bs_app]; rfl, HB6.out⟩
end Go.Proofs
namespace Go.Proofs
open Go.RowKit Go.Shelf Gas
attribute [local go_sem ↓] Go.wp_at_zero Go.wp_at_succ

/-- Rows of numbers, as a slice of slices reads. -/
structure RowsAt (w : World) (A : Option Addr) (n : Nat) (rows : List (List Int)) : Prop where
  len : rows.length = n
  ex : 0 < n → ∃ b o, A = some ⟨b, o, none⟩ ∧ ∀ (j : Nat) xs, rows[j]? = some xs → ∃ D m c, w.cell? ⟨b, o + j, none⟩ = some (.slice D m c) ∧ SlOf inC 1 w D m xs
theorem RowsAt.keep {w w' : World} {A : Option Addr} {n : Nat} {rows : List (List Int)} (h : RowsAt w A n rows) (hb : Below w.heap.size w w') : RowsAt w' A n rows :=
  ⟨h.len, fun hn => by
    obtain ⟨b, o, e, hc⟩ := h.ex hn
    refine ⟨b, o, e, fun j xs hx => ?_⟩
    obtain ⟨D, m, c, h1, h2⟩ := hc j xs hx
    exact ⟨D, m, c, by rw [← h1]; exact hb.cell (p := ⟨b, o + j, none⟩) (block_lt_of_cell h1), h2.keep hb⟩⟩
/-- The check of some rows. -/
def chkL (rows : List (List Int)) : List UInt8 := Lib.itoa (totS 0 rows % 97 / 10) ++ Lib.itoa (totS 0 rows % 97 % 10)

theorem chk_step (T R k j y : Int) (hT : 0 ≤ T ∧ T ≤ 100000000000000000) (hR : 0 ≤ R ∧ R ≤ 100000000000000000) (hk : 0 ≤ k ∧ k ≤ 1000) (hj : 0 ≤ j ∧ j ≤ 1000) (hy : 0 ≤ y ∧ y ≤ 10000) :
    wrap64 (T + R + wrap64 (wrap64 ((k + 1) * (j + 1)) * y)) = T + (R + (k + 1) * (j + 1) * y) := by
  have := term_bd (i := k + 1) (k := j + 1) (x := y) (by omega) (by omega) hy
  rw [w64 (x := (k + 1) * (j + 1)) (by omega) (by omega), w64 (x := (k + 1) * (j + 1) * y) (by omega) (by omega), w64 (by omega) (by omega)]
  omega

theorem decDigits_small {u : Nat} (h : u < 100) : (Lib.decDigits u).length ≤ 2 := by
  rw [Lib.decDigits]; split
  · simp
  · rw [Lib.decDigits]; split
    · simp
    · omega
theorem itoa_size {n : Int} (h : 0 ≤ n ∧ n < 100) : (bs (Lib.itoa n)).size ≤ 1000 := by
  rw [bs_size, Lib.itoa, if_neg (by omega)]
  have := decDigits_small (u := n.toNat) (by omega)
  omega

set_option maxHeartbeats 1000000 in
theorem check_c (A : Option Addr) (n c : Nat) (rows : List (List Int)) (hn : n ≤ 1000) (w : World) (hs : RowsAt w A n rows) (hr : ∀ r ∈ rows, r.length ≤ 1000 ∧ ∀ x ∈ r, 0 ≤ x ∧ x ≤ 10000) :
    Calls Tryz.prog 114 #[.slice A n c] w fun e w' => e = .returned (.string (bs (chkL rows))) ∧ Below w.heap.size w w' := by
  have HS := Lib.hid hs; have HN := Lib.hid hs.len; have HR := Lib.hid hr
  have HTB := Lib.hid (totS_bd rows 0 (by omega) (by rw [hs.len]; omega) hr)
  clear hs hr
  go_enter Tryz.func114, Tryz.ntmps114
  go_wp2
  go_loop [3, 10] (fun s i => ∃ k : Nat, k ≤ n ∧ i = .int .i64 k ∧ s = .int .i64 (totS 0 (rows.take k))) (fun _ i => n - (intOf i).toNat)
  case atStart => exact ⟨0, by omega, rfl, rfl⟩
  case round =>
    obtain ⟨k, hk, rfl, rfl⟩ := hrel
    by_cases hkn : k < n
    · have hkl : k < rows.length := by rw [HN.out]; exact hkn
      have hx := List.getElem?_eq_getElem hkl
      obtain ⟨hrl, hre⟩ := HR.out _ (List.getElem_mem hkl)
      have HT := Lib.hid (List.take_append_getElem hkl)
      obtain ⟨x, hxx⟩ : ∃ x, x = rows[k] := ⟨_, rfl⟩
      rw [← hxx] at hx HT hrl hre
      obtain ⟨b, o, he, hc⟩ := HS.out.ex (by omega)
      obtain ⟨D, m, c', hcell, hsl⟩ := hc k x hx
      subst he
      have HSL := Lib.hid hsl; have HML := Lib.hid hsl.1; have HRE := Lib.hid hre
      have HTs := Lib.hid (show totS 0 (rows.take (k + 1)) = totS 0 (rows.take k) + rowS (k + 1) 0 x by
        rw [← HT.out, totS_snoc]; congr 2; simp; omega)
      have HTk := Lib.hid (totS_bd (rows.take k) 0 (by omega) (by simp; omega) (fun r hr => HR.out r (List.mem_of_mem_take hr)))
      have hm : m ≤ 1000 := by rw [← hsl.1]; exact hrl
      clear hc hsl hre hx hxx hrl
      go_wp2
      go_loop [3, 17] (fun s i => ∃ j : Nat, j ≤ m ∧ i = .int .i64 j ∧ s = .int .i64 (totS 0 (rows.take k) + rowS (k + 1) 0 (x.take j))) (fun _ i => m - (intOf i).toNat)
      case atStart => exact ⟨0, by omega, rfl, by simp [rowS]⟩
      case round =>
        obtain ⟨j, hj, rfl, rfl⟩ := hrel
        by_cases hjm : j < m
        · have hjl : j < x.length := by rw [HML.out]; exact hjm
          obtain ⟨b2, o2, he2⟩ := HSL.out.addr (by omega)
          have hy := List.getElem?_eq_getElem hjl
          have HJ := Lib.hid (List.take_append_getElem hjl)
          have hye := HRE.out _ (List.getElem_mem hjl)
          obtain ⟨y, hyy⟩ : ∃ y, y = x[j] := ⟨_, rfl⟩
          rw [← hyy] at hy HJ hye
          subst he2
          have hcy : w.cell? ⟨b2, o2 + j, none⟩ = some (.int .i64 y) := by have := (HSL.out.range inC_len hy) 0 _ rfl; simpa using this
          have hyb := HRE.out y (List.mem_of_getElem? hy)
          have hRj := rowS_bd (i := (k : Int) + 1) (by omega) (x.take j) 0 (by omega) (by simp; omega) (fun z hz => HRE.out z (List.mem_of_mem_take hz))
          have hstep := chk_step (totS 0 (rows.take k)) (rowS (k + 1) 0 (x.take j)) k j y ⟨HTk.out.1, by have := HTk.out.2; simp at this; omega⟩ ⟨hRj.1, by have := hRj.2; simp at this; omega⟩ (by omega) (by omega) hyb
          have HW := Lib.hid (hstep.trans (show _ = totS 0 (rows.take k) + rowS (k + 1) 0 (x.take (j + 1)) by rw [← HJ.out, rowS_snoc]; congr 2; simp; rw [Nat.min_eq_left (by omega)]))
          clear hRj hstep hy hyb hyy
          go_wp2
          go_round
          case rel => exact ⟨j + 1, by omega, by go_num, by rw [HW.out]⟩
          case measure => simp [intOf]; omega
        · have hje : j = m := by omega
          subst hje
          have HE := Lib.hid (show x.take j = x from List.take_of_length_le (by rw [HML.out]; exact Nat.le_refl _))
          rw [HE.out, ← HTs.out]
          go_wp2
          go_round
          case rel => exact ⟨k + 1, by omega, by go_num, rfl⟩
          case measure => simp [intOf]; omega
    · have hke : k = n := by omega
      subst hke
      rw [List.take_of_length_le (by rw [HN.out]; exact Nat.le_refl _)]
      have ht := HTB.out
      have HC := Lib.hid (show chkL rows = Lib.itoa (totS 0 rows % 97 / 10) ++ Lib.itoa (totS 0 rows % 97 % 10) from rfl)
      generalize totS 0 rows = T at *
      have ht2 : 0 ≤ T ∧ T ≤ 100000000000000000 := ⟨ht.1, by have := ht.2; rw [HN.out] at this; omega⟩
      clear ht
      have hz1 : (bs (Lib.itoa (T % 97 / 10))).size ≤ 1000 := itoa_size (by omega)
      have hz2 : (bs (Lib.itoa (T % 97 % 10))).size ≤ 1000 := itoa_size (by omega)
      have HB := Lib.hid (Below.refl w.heap.size w)
      go_wp2_with (go_at_call 130; refine (itoa_small _ _ (by omega) _ (Below.refl _ _)).mono ?_; rintro e w3 ⟨rfl, hb⟩; replace HB := Lib.hid (nextB HB.out hb); clear hb)
      exact bodyPost_ret (results_tmp rfl _ _ _) rfl ⟨by rw [HC.out, ← bs_app]; rfl, HB.out⟩
end Go.Proofs
namespace Go.Proofs
open Go.RowKit Go.Shelf Gas
attribute [local go_sem ↓] Go.wp_at_zero Go.wp_at_succ

def diveW : List UInt8 := [100, 105, 118, 101]
def stageW : List UInt8 := [115, 116, 97, 103, 101]
def wordK (k : Nat) : List UInt8 := if k = 0 then diveW else stageW
/-- The lines of the rows, from row number k on. -/
def linesL : Nat → List (List Int) → List UInt8
  | _, [] => []
  | k, r :: l => wrL (wordK k) r ++ linesL (k + 1) l
theorem linesL_snoc (y : List Int) : ∀ (xs : List (List Int)) (k : Nat), linesL k (xs ++ [y]) = linesL k xs ++ wrL (wordK (k + xs.length)) y
  | [], k => by simp [linesL]
  | x :: r, k => by
    simp only [List.cons_append, linesL, linesL_snoc y r (k + 1), List.length_cons, List.append_assoc]
    rw [show k + 1 + r.length = k + (r.length + 1) by omega]
/-- The rows of a dive. -/
def rowsOf (dive : List St) : List (List Int) := [(dive.length : Int)] :: dive.map fun s => [s.dl, s.dh, s.ml, s.mh]
/-- The slip of a dive. -/
def slipL (dive : List St) : List UInt8 := linesL 0 (rowsOf dive) ++ [101, 110, 100] ++ [32] ++ chkL (rowsOf dive) ++ [10]

/-- Rows of numbers, owned. -/
structure Rws (w : World) (base : Nat) (v : Value) (xss : List (List Int)) : Prop where
  ex : ∃ cells, w.ownsRow base 23 1 v xss.length cells ∧ ∀ (j : Nat) xs, xss[j]? = some xs → ∃ D, cells[j]? = some (.slice (some ⟨D, 0, none⟩) xs.length xs.length) ∧ RowOf inC 1 w D 3 xs.length xs
theorem Rws.keep {w w' : World} {base : Nat} {v : Value} {xss : List (List Int)} (h : Rws w base v xss) (hb : Below w.heap.size w w') : Rws w' base v xss := by
  obtain ⟨cells, h1, h2⟩ := h.ex
  refine ⟨cells, owns_keep h1 hb, fun j xs hx => ?_⟩
  obtain ⟨D, a, b⟩ := h2 j xs hx
  exact ⟨D, a, b.keep hb⟩
theorem Rws.at {w : World} {base n : Nat} {v : Value} {xss : List (List Int)} (h : Rws w base v xss) (hn : xss.length = n) : ∃ A c, v = .slice A n c ∧ RowsAt w A n xss := by
  obtain ⟨cells, h1, h2⟩ := h.ex
  rcases h1.2 with ⟨rfl, h0⟩ | ⟨g, cap, cur, rfl, h3, h4, h5, h6, h7, h8⟩
  · exact ⟨none, 0, by rw [← hn, h0], ⟨hn, fun hp => by omega⟩⟩
  · refine ⟨some ⟨g, 0, none⟩, cap, by rw [hn], ⟨hn, fun _ => ⟨g, 0, rfl, fun j xs hx => ?_⟩⟩⟩
    obtain ⟨D, a, b⟩ := h2 j xs hx
    refine ⟨some ⟨D, 0, none⟩, xs.length, xs.length, ?_, b.sl inC_len⟩
    have hc : w.cell? ⟨g, j, none⟩ = cur[j]? := (Has.cell (w := w) (g := g) (t := 23) (cs := cur) h4 j)
    rw [Nat.zero_add, hc, ← Array.getElem?_toList]
    rw [← h8, List.getElem?_take] at a
    split at a
    · exact a
    · cases a
theorem info37 : ∃ i, Tryz.prog.info? 23 = some i ∧ i.zero = some (.slice none 0 0) ∧ i.bytes = 24 ∧ i.size = 1 := by
  have h : (Tryz.prog.info? 23).isSome = true := by kernel_rfl
  exact ⟨(Tryz.prog.info? 23).get h, (Option.some_get _).symm, by kernel_rfl, by kernel_rfl, by kernel_rfl⟩

theorem wpList_app62 {ops : Array Oper} {rest : List Oper} {o : Oper} {a : Act} {w : World} {Q : Exit → Act → World → Prop} (hgd : o.guard = none) (s x : Operand)
    (ho : o.op = .call { callee := .builtin .append, args := #[s, x], argTypes := #[160, 160] })
    (base : Nat) (v : Value) (xss : List (List Int)) (hs : a.eval s = v) (hl : Rws w base v xss) (hlen : xss.length ≤ 1000000)
    (b D : Nat) (xs : List Int) (hx : a.eval x = .slice (some ⟨b, 0, none⟩) 1 1) (hb : Has w b 23 #[.slice (some ⟨D, 0, none⟩) xs.length xs.length]) (hD : RowOf inC 1 w D 3 xs.length xs) (hbase : base ≤ w.heap.size)
    (h : ∀ v' w', Rws w' base v' (xss ++ [xs]) → Below base w w' → Spares w w' 23 → wpList Tryz.prog ops Q rest (a.put o.dst v') w') : wpList Tryz.prog ops Q (o :: rest) a w := by
  obtain ⟨i, hi, hz, hby, hsz⟩ := info37
  obtain ⟨cells, h1, h2⟩ := hl.ex
  refine wpList_append_own w hgd s x 160 ho base 23 i _ 1 24 (by kernel_rfl) hi hz hsz hby rfl (by omega) v xss.length _ hs h1 ⟨b, 0, none⟩ 1 1 [.slice (some ⟨D, 0, none⟩) xs.length xs.length] hx rfl ?_ (by simp [Value.oneCell']) (by unfold maxLen; omega) (by omega) hbase
    (fun v' w' e1 e2 _ => h v' w' ⟨cells ++ [.slice (some ⟨D, 0, none⟩) xs.length xs.length], by simpa using e1, fun j ys hy => ?_⟩ (below_grown e2 (fun r hr => (h1.lt r hr).1) hbase) (Spares.of_grown h1 e2))
  · intro j u hu
    have hadd : (⟨b, 0, none⟩ : Addr).add j = ⟨b, j, none⟩ := by unfold Addr.add; split <;> simp_all
    rw [hadd, hb.cell j]
    simpa using hu
  · have hcl : cells.length = xss.length := by simpa using h1.1
    by_cases hj : j < xss.length
    · rw [List.getElem?_append_left hj] at hy
      obtain ⟨E, a1, a2⟩ := h2 j ys hy
      refine ⟨E, by rw [List.getElem?_append_left (by omega)]; exact a1, ?_⟩
      obtain ⟨cur, c1, _⟩ := id a2
      exact a2.same (grown_type h1 e2 c1 (by decide))
    · rw [List.getElem?_append_right (by omega)] at hy
      have hj0 : j - xss.length = 0 := by
        have := (List.getElem?_eq_some_iff.1 hy).1; simp at this; omega
      rw [hj0] at hy; cases hy
      refine ⟨D, by rw [List.getElem?_append_right (by omega), hcl, hj0]; rfl, ?_⟩
      obtain ⟨cur, c1, _⟩ := id hD
      exact hD.same (grown_type h1 e2 c1 (by decide))
theorem builder_keep {T e : TypeId} {B b : Nat} {l : List Value} {w w' : World} (h : Lib.IsBuilder T e B b l w) (hb : Below w.heap.size w w') : Lib.IsBuilder T e B b l w' := by
  have key : ∀ p, Lib.BuilderAt T e B b p l w → Lib.BuilderAt T e B b p l w' := fun p hp => by
    have hlt := hp.lt
    obtain ⟨h1, v, h2, h3, h4⟩ := hp
    exact ⟨h1, v, (hb.block b hlt).trans h2, owns_keep h3 hb, h4⟩
  rcases h with h | h
  · exact .inl (key _ h)
  · exact .inr (key _ h)
end Go.Proofs
namespace Go.Proofs
open Go.RowKit Go.Shelf Gas
attribute [local go_sem ↓] Go.wp_at_zero Go.wp_at_succ

theorem decDigits_len : ∀ (n u : Nat), u < 10 ^ (n + 1) → (Lib.decDigits u).length ≤ n + 1
  | 0, u, h => by rw [Lib.decDigits, dif_pos (by simpa using h)]; simp
  | n + 1, u, h => by
    rw [Lib.decDigits]; split
    · simp
    · have := decDigits_len n (u / 10) (by rw [Nat.pow_succ] at h; omega)
      simp; omega
theorem itoa_len {x : Int} (h : 0 ≤ x ∧ x ≤ 10000) : (Lib.itoa x).length ≤ 5 := by
  rw [Lib.itoa, if_neg (by omega)]
  exact decDigits_len 4 x.toNat (by omega)
/-- A row of a slip: one number, or four. -/
def RowOk (r : List Int) : Prop := (r.length = 1 ∨ r.length = 4) ∧ ∀ x ∈ r, 0 ≤ x ∧ x ≤ 10000
theorem wrL_len {word : List UInt8} (hw : word.length ≤ 10) {r : List Int} (h : RowOk r) : (wrL word r).length ≤ 100 := by
  obtain ⟨h1, h2⟩ := h
  have hb := fun x hx => itoa_len (h2 x hx)
  match r, h1, hb with
  | [a], _, hb =>
    have := hb a (by simp)
    simp [wrL, Lib.join, List.intercalate, List.intersperse]; omega
  | [a, b, c, d], _, hb =>
    have h1 := hb a (by simp); have h2 := hb b (by simp); have h3 := hb c (by simp); have h4 := hb d (by simp)
    simp [wrL, Lib.join, List.intercalate, List.intersperse]; omega
theorem wordK_len (k : Nat) : (wordK k).length ≤ 10 := by unfold wordK; split <;> simp [diveW, stageW]
theorem linesL_len : ∀ (l : List (List Int)) (k : Nat), (∀ r ∈ l, RowOk r) → (linesL k l).length ≤ 100 * l.length
  | [], _, _ => by simp [linesL]
  | r :: l, k, h => by
    have a := linesL_len l (k + 1) (fun x hx => h x (List.mem_cons_of_mem _ hx))
    have b := wrL_len (wordK_len k) (h r (List.mem_cons_self ..))
    simp only [linesL, List.length_append, List.length_cons]; omega
theorem linesL_ne {l : List (List Int)} {k : Nat} (h : 0 < l.length) : linesL k l ≠ [] := by
  match l, h with
  | r :: l, _ => simp [linesL, wrL]
def stNum (s : St) : Prop := (0 ≤ s.dl ∧ s.dl ≤ 10000) ∧ (0 ≤ s.dh ∧ s.dh ≤ 10000) ∧ (0 ≤ s.ml ∧ s.ml ≤ 10000) ∧ 0 ≤ s.mh ∧ s.mh ≤ 10000
theorem rowsOf_ok {dive : List St} (hn : dive.length ≤ 300) (h : ∀ s ∈ dive, stNum s) : ∀ r ∈ rowsOf dive, RowOk r := by
  intro r hr
  simp only [rowsOf, List.mem_cons, List.mem_map] at hr
  rcases hr with rfl | ⟨s, hs, rfl⟩
  · exact ⟨.inl rfl, by simp; omega⟩
  · obtain ⟨a, b, c, d⟩ := h s hs
    refine ⟨.inr rfl, ?_⟩
    simp only [List.mem_cons, List.not_mem_nil, or_false]
    rintro x (rfl | rfl | rfl | rfl) <;> assumption
theorem RowOk.len {r : List Int} (h : RowOk r) : r.length ≤ 1000 := by rcases h.1 with h | h <;> omega

theorem bs_lit (L : List UInt8) (a : List UInt8) : bs L ++ ⟨a.toArray⟩ = bs (L ++ a) := bs_app L a
theorem chkL_len (rows : List (List Int)) : (chkL rows).length ≤ 1000 := by
  unfold chkL
  have h1 := itoa_len (x := totS 0 rows % 97 / 10) (by omega)
  have h2 := itoa_len (x := totS 0 rows % 97 % 10) (by omega)
  simp; omega

set_option maxHeartbeats 2000000 in
set_option maxRecDepth 20000 in
theorem slip_c (A : Option Addr) (n c : Nat) (dive : List St) (hn : n ≤ 300) (w : World) (hd : SlOf St.cs 4 w A n dive) (hv : ∀ s ∈ dive, stNum s) (hI : ∀ r ∈ rowsOf dive, ∀ x ∈ r, ItoaOk w x) :
    Calls Tryz.prog 79 #[.slice A n c] w fun e w' => e = .returned (.string (bs (slipL dive))) ∧ Below w.heap.size w w' := by
  have HD := Lib.hid hd; have HN := Lib.hid hd.1
  have hok := rowsOf_ok (by rw [hd.1]; exact hn) hv
  have HOK := Lib.hid hok; have HI := Lib.hid hI
  have hrl : (rowsOf dive).length = n + 1 := by simp [rowsOf, hd.1]
  have HRL := Lib.hid hrl
  have B0 := Lib.hid (newB (newB (Below.refl w.heap.size w) (.cells #[.int .i64 (n : Int)] 3)) (.cells #[.slice (some ⟨w.heap.size, 0, none⟩) 1 1] 23))
  have R0 := Lib.hid (show Rws ((w.alloc (.cells #[.int .i64 (n : Int)] 3)).alloc (.cells #[.slice (some ⟨w.heap.size, 0, none⟩) 1 1] 23)) w.heap.size (.slice (some ⟨w.heap.size + 1, 0, none⟩) 1 1) ((rowsOf dive).take (0 + 1)) from by
    refine ⟨[.slice (some ⟨w.heap.size, 0, none⟩) 1 1], ?_, fun j xs hx => ?_⟩
    · have := World.ownsRow_lit (base := w.heap.size) (e := 23) (size := 1) (w.alloc (.cells #[.int .i64 (n : Int)] 3)) #[.slice (some ⟨w.heap.size, 0, none⟩) 1 1] 1 (by simp) (by unfold maxLen; omega) rfl
      simpa [rowsOf] using this
    · simp only [rowsOf, List.take_succ_cons, List.take_zero] at hx
      match j, hx with
      | 0, hx =>
        simp at hx; subst hx
        exact ⟨w.heap.size, rfl, _, (Has.new w 3 _).alloc _, rfl, by simp [flat, inC, hd.1]⟩)
  clear hd hv hI hok hrl
  go_enter Tryz.func79, Tryz.ntmps79
  go_wp2
  go_loopw [3, 16] (fun v i wr => ∃ k : Nat, k ≤ n ∧ i = .int .i64 k ∧ Rws wr w.heap.size v ((rowsOf dive).take (k + 1)) ∧ Below w.heap.size w wr) (fun _ i _ => n - (intOf i).toNat)
  case atStart => exact ⟨0, by omega, rfl, R0.out, B0.out⟩
  case round =>
    obtain ⟨k, hk, rfl, hO, hB⟩ := hrel
    have HB := Lib.hid hB; have HO := Lib.hid hO
    clear hB hO R0 B0
    by_cases hkn : k < n
    · have hkl : k < dive.length := by rw [HN.out]; exact hkn
      obtain ⟨b, o, he⟩ := HD.out.addr (by omega)
      have hx := List.getElem?_eq_getElem hkl
      obtain ⟨x, hxx⟩ : ∃ x, x = dive[k] := ⟨_, rfl⟩
      rw [← hxx] at hx
      subst he
      have hR := Lib.hid ((HD.out.keep HB.out).range St.cs_len hx)
      have HTs := Lib.hid (show (rowsOf dive).take (k + 1 + 1) = (rowsOf dive).take (k + 1) ++ [[x.dl, x.dh, x.ml, x.mh]] by
        have hg : (rowsOf dive)[k + 1]? = some [x.dl, x.dh, x.ml, x.mh] := by simp [rowsOf, hx]
        rw [List.take_add_one, hg]; rfl)
      have hlk : ((rowsOf dive).take (k + 1)).length ≤ 1000000 := by simp; omega
      clear hx hxx
      obtain ⟨dl, dh, ml, mh⟩ := x
      simp only at HTs
      replace hR := Lib.hid (show wr.rangeAt b (o + k * 4) [.int .i64 dl, .int .i64 dh, .int .i64 ml, .int .i64 mh] from hR.out)
      have N := Lib.hid (Has.new wr 80 #[.int .i64 dl, .int .i64 dh, .int .i64 ml, .int .i64 mh])
      have cn := (Has.new wr 80 #[.int .i64 dl, .int .i64 dh, .int .i64 ml, .int .i64 mh]).cell
      have B1 := Lib.hid (newB (newB (newB HB.out (.cells #[.int .i64 dl, .int .i64 dh, .int .i64 ml, .int .i64 mh] 80)) (.cells #[.int .i64 dl, .int .i64 dh, .int .i64 ml, .int .i64 mh] 3)) (.cells #[.slice (some ⟨wr.heap.size + 1, 0, none⟩) 4 4] 23))
      have O3 := Lib.hid (HO.out.keep (newB (newB (newB (Below.refl _ wr) (.cells #[.int .i64 dl, .int .i64 dh, .int .i64 ml, .int .i64 mh] 80)) (.cells #[.int .i64 dl, .int .i64 dh, .int .i64 ml, .int .i64 mh] 3)) (.cells #[.slice (some ⟨wr.heap.size + 1, 0, none⟩) 4 4] 23)))
      have H37 := Lib.hid (Has.new' ((wr.alloc (.cells #[.int .i64 dl, .int .i64 dh, .int .i64 ml, .int .i64 mh] 80)).alloc (.cells #[.int .i64 dl, .int .i64 dh, .int .i64 ml, .int .i64 mh] 3)) 23 #[.slice (some ⟨wr.heap.size + 1, 0, none⟩) 4 4] (g := wr.heap.size + 1 + 1) (by simp))
      have HR3 := Lib.hid (show RowOf inC 1 (((wr.alloc (.cells #[.int .i64 dl, .int .i64 dh, .int .i64 ml, .int .i64 mh] 80)).alloc (.cells #[.int .i64 dl, .int .i64 dh, .int .i64 ml, .int .i64 mh] 3)).alloc (.cells #[.slice (some ⟨wr.heap.size + 1, 0, none⟩) 4 4] 23)) (wr.heap.size + 1) 3 4 [dl, dh, ml, mh] from
        ⟨_, (Has.new' (wr.alloc (.cells #[.int .i64 dl, .int .i64 dh, .int .i64 ml, .int .i64 mh] 80)) 3 #[.int .i64 dl, .int .i64 dh, .int .i64 ml, .int .i64 mh] (g := wr.heap.size + 1) (by simp)).alloc _, rfl, fun j u hu => by simpa [flat, inC] using hu⟩)
      clear N
      go_wp2_with (first
        | (refine wpList_load_mid rfl 80 _ rfl b (o + k * 4) rfl _ _ hR.out Tryz.underlying80 rfl (by kernel_rfl) ?_)
        | (at_builtin; refine wpList_app62 rfl _ _ rfl w.heap.size u3 _ rfl O3.out hlk (wr.heap.size + 1 + 1) (wr.heap.size + 1) [dl, dh, ml, mh] rfl H37.out HR3.out B1.out.size ?_; intro v5 w5 ho5 hb5 _; have HO5 := Lib.hid ho5; have HB5 := Lib.hid (B1.out.trans hb5); clear ho5 hb5))
      go_roundw
      case rel => exact ⟨k + 1, by omega, by go_num, by rw [HTs.out]; exact HO5.out, HB5.out⟩
      case measure => simp [intOf]; omega
    · have hke : k = n := by omega
      subst hke
      have hO := HO.out
      rw [List.take_of_length_le (by rw [HRL.out]; exact Nat.le_refl _)] at hO
      obtain ⟨A3, c3, e3, hRA⟩ := hO.at HRL.out
      subst e3
      have HE := Lib.hid (show slipL dive = linesL 0 (rowsOf dive) ++ [101, 110, 100] ++ [32] ++ chkL (rowsOf dive) ++ [10] from rfl)
      have HRA := Lib.hid hRA
      have HII := Lib.hid fun r hr x hx => (HI.out r hr x hx).keep HB.out
      have hll := linesL_len (rowsOf dive) 0 HOK.out
      have HCk := Lib.hid fun (W : World) (hb : Below wr.heap.size wr W) => check_c A3 (k + 1) c3 (rowsOf dive) (by omega) W (hRA.keep hb) (fun r hr => ⟨(HOK.out r hr).len, (HOK.out r hr).2⟩)
      clear hO hRA HO HI HD HN
      rw [HRL.out] at hll
      generalize rowsOf dive = rows at *
      rename World => W1
      have F0 := Lib.hid (Lib.fresh_isBuilder 163 5 W1)
      have FB := Lib.hid (newB (Below.refl W1.heap.size W1) (.cells #[.pointer none, .slice none 0 0] 163))
      go_wp2
      go_loopw [7, 39] (fun v i w2 => ∃ j : Nat, j ≤ k + 1 ∧ i = .int .i64 j ∧ v = .string (bs (wordK j)) ∧ Lib.IsBuilder 163 5 W1.heap.size W1.heap.size (Lib.byteCells (linesL 0 (rows.take j))) w2 ∧ Below W1.heap.size W1 w2) (fun _ i _ => k + 1 - (intOf i).toNat)
      case atStart => exact ⟨0, by omega, rfl, rfl, F0.out, FB.out⟩
      case round =>
        obtain ⟨j, hj, rfl, rfl, hF, hB2⟩ := hrel
        have HF := Lib.hid hF; have HB2 := Lib.hid hB2
        clear hF hB2 F0 FB
        by_cases hjk : j < k + 1
        · have hjl : j < rows.length := by rw [HRL.out]; exact hjk
          have hy := List.getElem?_eq_getElem hjl
          have hym := List.getElem_mem hjl
          have HT := Lib.hid (List.take_append_getElem hjl)
          obtain ⟨y, hyy⟩ : ∃ y, y = rows[j] := ⟨_, rfl⟩
          rw [← hyy] at hy hym HT
          obtain ⟨b2, o2, he2, hc2⟩ := (HRA.out.keep HB2.out).ex (by omega)
          subst he2
          obtain ⟨D, m, c', hcell, hsl⟩ := hc2 j y hy
          have hyo := HOK.out y hym
          have hm1 : m ≤ 1000 := by rw [← hsl.1]; exact hyo.len
          have hwl := wrL_len (wordK_len j) hyo
          have HWr := Lib.hid (written_c (wordK j) D m c' y hm1 wr hsl (fun x hx => (HII.out y hym x hx).keep HB2.out) (by omega))
          have hlj := linesL_len (rows.take j) 0 (fun r hr => HOK.out r (List.mem_of_mem_take hr))
          have hlj2 : (rows.take j).length ≤ 301 := by simp; omega
          have HLs := Lib.hid (show Lib.byteCells (linesL 0 (rows.take (j + 1))) = Lib.byteCells (linesL 0 (rows.take j)) ++ Lib.strCells (bs (wrL (wordK j) y)) by
            rw [← HT.out, linesL_snoc]
            have : 0 + (rows.take j).length = j := by simp; omega
            rw [this]; simp [Lib.byteCells, Lib.strCells, bs_list])
          have hsz : (Lib.byteCells (linesL 0 (rows.take j))).length + (bs (wrL (wordK j) y)).size ≤ 1000000000 := by
            rw [Lib.byteCells_length, bs_size]; omega
          have HS := Lib.hid hsz
          clear hc2 hy hyy hym hyo hwl hlj hlj2 hsl hsz
          go_wp2_with (first
            | (go_at_call 112; refine HWr.out.mono ?_; rintro e w3 ⟨rfl, hb⟩; have HB3 := Lib.hid (nextB HB2.out hb); have HF3 := Lib.hid (builder_keep HF.out hb); clear hb)
            | (go_at_call 111; refine (writeString_c _ _ _ _ _ HF3.out HS.out HB3.out.size).mono ?_; rintro e w4 ⟨rfl, hf, hb⟩; have HF4 := Lib.hid hf; have HB4 := Lib.hid (HB3.out.trans hb); clear hf hb))
          go_roundw
          case rel => exact ⟨j + 1, by omega, by go_num, rfl, by rw [HLs.out]; exact HF4.out, HB4.out⟩
          case measure => simp [intOf]; omega
        · have hje : j = k + 1 := by omega
          subst hje
          have hF := HF.out
          rw [List.take_of_length_le (by rw [HRL.out]; exact Nat.le_refl _)] at hF
          have hL0 : linesL 0 rows ≠ [] := linesL_ne (by rw [HRL.out]; omega)
          have HSt := Lib.hid (show Calls Tryz.prog 113 #[.pointer (some ⟨W1.heap.size, 0, none⟩)] wr fun e w' => e = .returned (.string (bs (linesL 0 rows))) ∧ Below W1.heap.size wr w' from Tryz.Builder_String _ _ _ _ hF hL0)
          have hz : (linesL 0 rows).length ≤ 1000000 := by omega
          have hcl : (chkL rows).length ≤ 1000 := chkL_len _
          clear hF HF hL0 hll
          generalize linesL 0 rows = L at *
          generalize chkL rows = C at *
          obtain ⟨M1, hM1⟩ : ∃ M, M = L ++ [101, 110, 100] := ⟨_, rfl⟩
          obtain ⟨M2, hM2⟩ : ∃ M, M = M1 ++ [32] := ⟨_, rfl⟩
          obtain ⟨M3, hM3⟩ : ∃ M, M = M2 ++ C := ⟨_, rfl⟩
          obtain ⟨M4, hM4⟩ : ∃ M, M = M3 ++ [10] := ⟨_, rfl⟩
          have e1 : bs L ++ (⟨#[101, 110, 100]⟩ : ByteArray) = bs M1 := by rw [hM1]; exact bs_lit L [101, 110, 100]
          have e2 : bs M1 ++ (⟨#[32]⟩ : ByteArray) = bs M2 := by rw [hM2]; exact bs_lit M1 [32]
          have e3 : bs M2 ++ bs C = bs M3 := by rw [hM3]; exact bs_app M2 C
          have e4 : bs M3 ++ (⟨#[10]⟩ : ByteArray) = bs M4 := by rw [hM4]; exact bs_lit M3 [10]
          have z1 : (bs L).size ≤ 1000000 := by rw [bs_size]; exact hz
          have z2 : (bs M1).size ≤ 1000100 := by rw [bs_size, hM1]; simp; omega
          have z3 : (bs M2).size ≤ 1000100 := by rw [bs_size, hM2, hM1]; simp; omega
          have z4 : (bs C).size ≤ 1000 := by rw [bs_size]; exact hcl
          have z5 : (bs M3).size ≤ 1001100 := by rw [bs_size, hM3, hM2, hM1]; simp; omega
          have HM := Lib.hid (show slipL dive = M4 by rw [HE.out, hM4, hM3, hM2, hM1])
          clear hM1 hM2 hM3 hM4
          clear hz hcl
          go_wp2_with (first
            | (go_at_call 113; refine HSt.out.mono ?_; rintro e w3 ⟨rfl, hb⟩; have HB3 := Lib.hid (HB2.out.trans hb); clear hb)
            | (go_at_call 114; refine (HCk.out _ HB3.out).mono ?_; rintro e w4 ⟨rfl, hb⟩; have HB4 := Lib.hid (nextB HB3.out hb); clear hb))
          exact bodyPost_ret (results_tmp rfl _ _ _) rfl ⟨by rw [HM.out]; rfl, nextB HB.out HB4.out⟩
end Go.Proofs
namespace Go.Proofs
open Go.RowKit Go.Shelf Gas
attribute [local go_sem ↓] Go.wp_at_zero Go.wp_at_succ

theorem diveB_num {dive : List St} {room : Int} (h : diveB dive room = true) : ∀ s ∈ dive, stNum s := by
  simp only [diveB, Bool.and_eq_true, decide_eq_true_eq] at h
  intro s hs
  have := List.all_eq_true.1 h.2 s hs
  simp only [stageB, ordB, Bool.and_eq_true, decide_eq_true_eq] at this
  exact ⟨by omega, by omega, by omega, by omega⟩
def prnF (dive : List St) : List UInt8 × Int := if diveB dive 0 then (slipL dive, 0) else ([], 2)
set_option maxHeartbeats 1000000 in
theorem Print_c (A : Option Addr) (n c : Nat) (dive : List St) (hn : n ≤ 300) (w : World) (hd : SlOf St.cs 4 w A n dive) (hI : ∀ r ∈ rowsOf dive, ∀ x ∈ r, ItoaOk w x) :
    Calls Tryz.prog 34 #[.slice A n c] w fun e w' => e = .returned (.tuple #[.string (bs (prnF dive).1), .int .i64 (prnF dive).2]) ∧ Below w.heap.size w w' := by
  have HD := Lib.hid fun (w' : World) (hb : Below w.heap.size w w') => diveable_c A n c dive 0 (by omega) (by omega) w' (hd.keep hb)
  cases hdb : diveB dive 0
  · have HE := Lib.hid (show prnF dive = ([], 2) by simp [prnF, hdb])
    rw [hdb] at HD
    clear hd hI hdb
    go_enter Tryz.func34, Tryz.ntmps34
    go_wp2_with (go_at_call 69; refine (HD.out _ (Below.refl _ _)).mono ?_; rintro e w1 ⟨rfl, hb⟩; have HB := Lib.hid hb; clear hb)
    exact bodyPost_ret (results_tmp2 rfl _ _ _) rfl ⟨by rw [HE.out]; rfl, HB.out⟩
  · have HE := Lib.hid (show prnF dive = (slipL dive, 0) by simp [prnF, hdb])
    have HS := Lib.hid fun (w' : World) (hb : Below w.heap.size w w') => slip_c A n c dive hn w' (hd.keep hb) (diveB_num hdb) (fun r hr x hx => (hI r hr x hx).keep hb)
    rw [hdb] at HD
    clear hd hI hdb
    go_enter Tryz.func34, Tryz.ntmps34
    go_wp2_with (first
      | (go_at_call 69; refine (HD.out _ (Below.refl _ _)).mono ?_; rintro e w1 ⟨rfl, hb⟩; have HB := Lib.hid hb; clear hb)
      | (go_at_call 79; refine (HS.out _ HB.out).mono ?_; rintro e w2 ⟨rfl, hb⟩; have HB2 := Lib.hid (nextB HB.out hb); clear hb))
    exact bodyPost_ret (results_tmp2 rfl _ _ _) rfl ⟨by rw [HE.out]; rfl, HB2.out⟩
end Go.Proofs
