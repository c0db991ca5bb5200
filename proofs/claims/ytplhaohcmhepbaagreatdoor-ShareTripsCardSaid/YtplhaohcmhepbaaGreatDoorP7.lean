/-
  Contracts of Print and of the words of a text hold where numbers are written by strconv.
-/
import Derived.Shelf.Strings.Builder1
import Derived.Shelf.Strings.OnBuilder
import Derived.Shelf.Strings.Search3
import Derived.Shelf.Strings.Count
import Derived.Shelf.LaysM
import Derived.Shelf.Strconv.Itoa3
import Derived.Test.YtplhaohcmhepbaaGreatDoorProg
import Derived.Test.YtplhaohcmhepbaaGreatDoorP6
import Derived.Lib.LaidTab
import Derived.Laws.RangeString
namespace Go.Proofs
open Go.Shelf Go.RowKit Go.Sort Go.Lib
def Tryz.lays156_ren : Go.Shelf.Ren := ⟨fun | 156 => 164 | 165 => 177 | 166 => 178 | 169 => 179 | 240 => 184 | 241 => 185 | 276 => 193 | 277 => 194 | n => n, fun | 31 => 145 | 9 => 9 | 3 => 3 | 4 => 4 | 0 => 0 | 20 => 20 | 72 => 191 | 76 => 195 | 70 => 189 | 37 => 107 | 75 => 194 | 127 => 202 | 164 => 211 | 5 => 5 | 80 => 197 | n => n, fun | n => n⟩
theorem Tryz.lays156 : Go.Proofs.Lays.n156 Tryz.prog Tryz.lays156_ren := {
  mixed := by kernel_rfl
  f156 := Tryz.func164.trans (congrArg some (by kernel_rfl))
  f165 := Tryz.func177.trans (congrArg some (by kernel_rfl))
  f166 := Tryz.func178.trans (congrArg some (by kernel_rfl))
  f169 := Tryz.func179.trans (congrArg some (by kernel_rfl))
  f240 := Tryz.func184.trans (congrArg some (by kernel_rfl))
  f241 := Tryz.func185.trans (congrArg some (by kernel_rfl))
  f276 := Tryz.func193.trans (congrArg some (by kernel_rfl))
  f277 := Tryz.func194.trans (congrArg some (by kernel_rfl))
  t0 := Tryz.underlying0
  a0 := Tryz.isAgg0
  z0 := Tryz.sizeOf0
  v0 := Tryz.zeroValue0
  t3 := Tryz.underlying3
  a3 := Tryz.isAgg3
  z3 := Tryz.sizeOf3
  v3 := Tryz.zeroValue3
  t4 := Tryz.underlying4
  a4 := Tryz.isAgg4
  z4 := Tryz.sizeOf4
  v4 := Tryz.zeroValue4
  t9 := Tryz.underlying9
  a9 := Tryz.isAgg9
  z9 := Tryz.sizeOf9
  v9 := Tryz.zeroValue9
  t20 := Tryz.underlying20
  a20 := Tryz.isAgg20
  z20 := Tryz.sizeOf20
  v20 := Tryz.zeroValue20
  t31 := Tryz.underlying145
  a31 := Tryz.isAgg145
  z31 := Tryz.sizeOf145
  v31 := Tryz.zeroValue145
  t37 := Tryz.underlying107
  a37 := Tryz.isAgg107
  z37 := Tryz.sizeOf107
  v37 := Tryz.zeroValue107
  t70 := Tryz.underlying189
  a70 := Tryz.isAgg189
  z70 := Tryz.sizeOf189
  v70 := Tryz.zeroValue189
  t72 := Tryz.underlying191
  a72 := Tryz.isAgg191
  z72 := Tryz.sizeOf191
  v72 := Tryz.zeroValue191
  t75 := Tryz.underlying194
  a75 := Tryz.isAgg194
  z75 := Tryz.sizeOf194
  v75 := Tryz.zeroValue194
  t76 := Tryz.underlying195
  a76 := Tryz.isAgg195
  z76 := Tryz.sizeOf195
  v76 := Tryz.zeroValue195
  t127 := Tryz.underlying202
  a127 := Tryz.isAgg202
  z127 := Tryz.sizeOf202
  v127 := Tryz.zeroValue202
  t164 := Tryz.underlying211
  a164 := Tryz.isAgg211
  z164 := Tryz.sizeOf211
  v164 := Tryz.zeroValue211 }
theorem Tryz.Builder_Extra_156 : Builder.Extra Tryz.prog Tryz.lays156_ren := {
  sizeBuilder := by kernel_rfl
  liesBuilder := by kernel_rfl
  t5 := Tryz.underlying5
  a5 := Tryz.isAgg5
  z5 := Tryz.sizeOf5
  v5 := Tryz.zeroValue5
  infoByte := by kernel_rfl
  cellsByte := by kernel_rfl
  sizeByte := by kernel_rfl
  neB5 := by decide }
theorem Tryz.strings_Join_none (a : Option Addr) (c : Nat) (sep : ByteArray) (w : World) :
    Calls Tryz.prog 164 #[.slice a 0 c, .string sep] w fun e w' => e = .returned (.string ⟨#[]⟩) ∧ w' = w := Any.strings_Join_none Tryz.lays156 Tryz.Builder_Extra_156 a c sep w
theorem Tryz.strings_Join (bk o c : Nat) (xs : List ByteArray) (sep : ByteArray) (w : World) (hcells : ∀ (j : Nat) x, xs[j]? = some x → w.cell? ⟨bk, o + j, none⟩ = some (.string x)) (hbk : bk < w.heap.size) (hN : xs.length ≤ 140737488355328) (hcap : xs.length ≤ c) (hlen : (Lib.join (xs.map (·.data.toList)) sep.data.toList).length ≤ 140737488355328) :
    Calls Tryz.prog 164 #[.slice (some ⟨bk, o, none⟩) xs.length c, .string sep] w fun e w' => e = .returned (.string ⟨(Lib.join (xs.map (·.data.toList)) sep.data.toList).toArray⟩) ∧ Below w.heap.size w w' := Any.strings_Join Tryz.lays156 Tryz.Builder_Extra_156 bk o c xs sep w hcells hbk hN hcap hlen
def Tryz.lays143_ren : Go.Shelf.Ren := ⟨fun | 143 => 188 | 219 => 198 | 217 => 205 | 225 => 206 | 224 => 207 | 267 => 208 | 266 => 211 | 314 => 212 | n => n, fun | 9 => 9 | 3 => 3 | 4 => 4 | 5 => 5 | 46 => 186 | 146 => 227 | 51 => 219 | n => n, fun | 1 => 1 | n => n⟩
theorem Tryz.lays143 : Go.Proofs.Lays.n143 Tryz.prog Tryz.lays143_ren := {
  mixed := by kernel_rfl
  f143 := Tryz.func188.trans (congrArg some (by kernel_rfl))
  f217 := Tryz.func205.trans (congrArg some (by kernel_rfl))
  f219 := Tryz.func198.trans (congrArg some (by kernel_rfl))
  f224 := Tryz.func207.trans (congrArg some (by kernel_rfl))
  f225 := Tryz.func206.trans (congrArg some (by kernel_rfl))
  f266 := Tryz.func211.trans (congrArg some (by kernel_rfl))
  f267 := Tryz.func208.trans (congrArg some (by kernel_rfl))
  f314 := Tryz.func212.trans (congrArg some (by kernel_rfl))
  t3 := Tryz.underlying3
  a3 := Tryz.isAgg3
  z3 := Tryz.sizeOf3
  v3 := Tryz.zeroValue3
  t4 := Tryz.underlying4
  a4 := Tryz.isAgg4
  z4 := Tryz.sizeOf4
  v4 := Tryz.zeroValue4
  t5 := Tryz.underlying5
  a5 := Tryz.isAgg5
  z5 := Tryz.sizeOf5
  v5 := Tryz.zeroValue5
  t9 := Tryz.underlying9
  a9 := Tryz.isAgg9
  z9 := Tryz.sizeOf9
  v9 := Tryz.zeroValue9
  t46 := Tryz.underlying186
  a46 := Tryz.isAgg186
  z46 := Tryz.sizeOf186
  v46 := Tryz.zeroValue186
  t51 := Tryz.underlying219
  a51 := Tryz.isAgg219
  z51 := Tryz.sizeOf219
  v51 := Tryz.zeroValue219
  t146 := Tryz.underlying227
  a146 := Tryz.isAgg227
  z146 := Tryz.sizeOf227
  v146 := Tryz.zeroValue227
  g1 := by kernel_rfl }
theorem Tryz.strings_Index_one (s : ByteArray) (c : UInt8) (w : World) :
    Calls Tryz.prog 188 #[.string s, .string ⟨#[c]⟩] w fun e w' => e = .returned (.int .i64 (Lib.indexByte s.data.toList c)) ∧ w' = w := Any.strings_Index_one Tryz.lays143 s c w
def Tryz.lays138_ren : Go.Shelf.Ren := ⟨fun | 138 => 187 | 195 => 195 | 218 => 197 | 143 => 188 | 219 => 198 | 217 => 205 | 225 => 206 | 224 => 207 | 267 => 208 | 266 => 211 | 314 => 212 | n => n, fun | 9 => 9 | 3 => 3 | 4 => 4 | 5 => 5 | 0 => 0 | 46 => 186 | 146 => 227 | 51 => 219 | n => n, fun | 1 => 1 | n => n⟩
theorem Tryz.lays138 : Go.Proofs.Lays.n138 Tryz.prog Tryz.lays138_ren := {
  mixed := by kernel_rfl
  f138 := Tryz.func187.trans (congrArg some (by kernel_rfl))
  f143 := Tryz.func188.trans (congrArg some (by kernel_rfl))
  f195 := Tryz.func195.trans (congrArg some (by kernel_rfl))
  f217 := Tryz.func205.trans (congrArg some (by kernel_rfl))
  f218 := Tryz.func197.trans (congrArg some (by kernel_rfl))
  f219 := Tryz.func198.trans (congrArg some (by kernel_rfl))
  f224 := Tryz.func207.trans (congrArg some (by kernel_rfl))
  f225 := Tryz.func206.trans (congrArg some (by kernel_rfl))
  f266 := Tryz.func211.trans (congrArg some (by kernel_rfl))
  f267 := Tryz.func208.trans (congrArg some (by kernel_rfl))
  f314 := Tryz.func212.trans (congrArg some (by kernel_rfl))
  t0 := Tryz.underlying0
  a0 := Tryz.isAgg0
  z0 := Tryz.sizeOf0
  v0 := Tryz.zeroValue0
  t3 := Tryz.underlying3
  a3 := Tryz.isAgg3
  z3 := Tryz.sizeOf3
  v3 := Tryz.zeroValue3
  t4 := Tryz.underlying4
  a4 := Tryz.isAgg4
  z4 := Tryz.sizeOf4
  v4 := Tryz.zeroValue4
  t5 := Tryz.underlying5
  a5 := Tryz.isAgg5
  z5 := Tryz.sizeOf5
  v5 := Tryz.zeroValue5
  t9 := Tryz.underlying9
  a9 := Tryz.isAgg9
  z9 := Tryz.sizeOf9
  v9 := Tryz.zeroValue9
  t46 := Tryz.underlying186
  a46 := Tryz.isAgg186
  z46 := Tryz.sizeOf186
  v46 := Tryz.zeroValue186
  t51 := Tryz.underlying219
  a51 := Tryz.isAgg219
  z51 := Tryz.sizeOf219
  v51 := Tryz.zeroValue219
  t146 := Tryz.underlying227
  a146 := Tryz.isAgg227
  z146 := Tryz.sizeOf227
  v146 := Tryz.zeroValue227
  g1 := by kernel_rfl }
theorem Tryz.strings_Count_one (s : ByteArray) (c : UInt8) (w : World) :
    Calls Tryz.prog 187 #[.string s, .string ⟨#[c]⟩] w fun e w' => e = .returned (.int .i64 (Lib.countByte s.data.toList c)) ∧ w' = w := Any.strings_Count_one Tryz.lays138 s c w
def Tryz.laysM171_ren : Go.Shelf.Ren := ⟨fun | 171 => 161 | 243 => 176 | 246 => 183 | 283 => 189 | 284 => 190 | 285 => 191 | 286 => 192 | 129 => 200 | 317 => 199 | 318 => 201 | 319 => 202 | 320 => 203 | 337 => 209 | 338 => 210 | n => n, fun | 3 => 3 | 9 => 9 | 2 => 2 | 4 => 4 | 171 => 205 | 0 => 0 | 53 => 206 | 37 => 107 | 5 => 5 | 173 => 209 | 212 => 218 | 51 => 219 | 20 => 20 | 213 => 220 | 46 => 186 | 232 => 229 | 233 => 230 | n => n, fun | 17 => 0 | 18 => 4 | 19 => 5 | n => n⟩
theorem Tryz.laysM171 : Go.Proofs.LaysM.n171 Tryz.prog Tryz.laysM171_ren := {
  mixed := by kernel_rfl
  f129 := Tryz.func200.trans (congrArg some (by kernel_rfl))
  f171 := Tryz.func161.trans (congrArg some (by kernel_rfl))
  f243 := Tryz.func176.trans (congrArg some (by kernel_rfl))
  f246 := Tryz.func183.trans (congrArg some (by kernel_rfl))
  f283 := Tryz.func189.trans (congrArg some (by kernel_rfl))
  f284 := Tryz.func190.trans (congrArg some (by kernel_rfl))
  f285 := Tryz.func191.trans (congrArg some (by kernel_rfl))
  f286 := Tryz.func192.trans (congrArg some (by kernel_rfl))
  f317 := Tryz.func199.trans (congrArg some (by kernel_rfl))
  f318 := Tryz.func201.trans (congrArg some (by kernel_rfl))
  f319 := Tryz.func202.trans (congrArg some (by kernel_rfl))
  f320 := Tryz.func203.trans (congrArg some (by kernel_rfl))
  f337 := Tryz.func209.trans (congrArg some (by kernel_rfl))
  f338 := Tryz.func210.trans (congrArg some (by kernel_rfl))
  t0 := Tryz.underlying0
  a0 := Tryz.isAgg0
  z0 := Tryz.sizeOf0
  v0 := Tryz.zeroValue0
  t2 := Tryz.underlying2
  a2 := Tryz.isAgg2
  z2 := Tryz.sizeOf2
  v2 := Tryz.zeroValue2
  t3 := Tryz.underlying3
  a3 := Tryz.isAgg3
  z3 := Tryz.sizeOf3
  v3 := Tryz.zeroValue3
  t4 := Tryz.underlying4
  a4 := Tryz.isAgg4
  z4 := Tryz.sizeOf4
  v4 := Tryz.zeroValue4
  t5 := Tryz.underlying5
  a5 := Tryz.isAgg5
  z5 := Tryz.sizeOf5
  v5 := Tryz.zeroValue5
  t9 := Tryz.underlying9
  a9 := Tryz.isAgg9
  z9 := Tryz.sizeOf9
  v9 := Tryz.zeroValue9
  t20 := Tryz.underlying20
  a20 := Tryz.isAgg20
  z20 := Tryz.sizeOf20
  v20 := Tryz.zeroValue20
  t37 := Tryz.underlying107
  a37 := Tryz.isAgg107
  z37 := Tryz.sizeOf107
  v37 := Tryz.zeroValue107
  t46 := Tryz.underlying186
  a46 := Tryz.isAgg186
  z46 := Tryz.sizeOf186
  v46 := Tryz.zeroValue186
  t51 := Tryz.underlying219
  a51 := Tryz.isAgg219
  z51 := Tryz.sizeOf219
  v51 := Tryz.zeroValue219
  t53 := Tryz.underlying206
  a53 := Tryz.isAgg206
  z53 := Tryz.sizeOf206
  v53 := Tryz.zeroValue206
  t171 := Tryz.underlying205
  a171 := Tryz.isAgg205
  z171 := Tryz.sizeOf205
  v171 := Tryz.zeroValue205
  t173 := Tryz.underlying209
  a173 := Tryz.isAgg209
  z173 := Tryz.sizeOf209
  v173 := Tryz.zeroValue209
  t212 := Tryz.underlying218
  a212 := Tryz.isAgg218
  z212 := Tryz.sizeOf218
  v212 := Tryz.zeroValue218
  t213 := Tryz.underlying220
  a213 := Tryz.isAgg220
  z213 := Tryz.sizeOf220
  t232 := Tryz.underlying229
  a232 := Tryz.isAgg229
  z232 := Tryz.sizeOf229
  v232 := Tryz.zeroValue229
  t233 := Tryz.underlying230
  a233 := Tryz.isAgg230
  z233 := Tryz.sizeOf230
  v233 := Tryz.zeroValue230
  g17 := by kernel_rfl
  g18 := by kernel_rfl
  g19 := by kernel_rfl
  i0 := by kernel_rfl
  i2 := by kernel_rfl
  i3 := by kernel_rfl
  i4 := by kernel_rfl
  i5 := by kernel_rfl
  i9 := by kernel_rfl
  i20 := by kernel_rfl
  i37 := by kernel_rfl
  i46 := by kernel_rfl
  i51 := by kernel_rfl
  i53 := by kernel_rfl
  i171 := by kernel_rfl
  i173 := by kernel_rfl
  i212 := by kernel_rfl
  i232 := by kernel_rfl
  i233 := by kernel_rfl
  m17 := by kernel_rfl
  m18 := by kernel_rfl
  m19 := by kernel_rfl }
theorem Tryz.strconv_Itoa (n : Int) (h0 : -9223372036854775808 ≤ n) (h1 : n ≤ 9223372036854775807) (w : World) (htab : Lib.TabIs Tryz.prog w "internal/strconv.uint64pow10" .u64 Lib.pow10Tab) :
    Calls Tryz.prog 161 #[.int .i64 n] w fun e w' => e = .returned (.string ⟨(Lib.itoa n).toArray⟩) ∧ ∃ k os, w' = grow (w.drewN k) os := Any.strconv_Itoa Tryz.laysM171 n h0 h1 w htab
def Tryz.lays171_ren : Go.Shelf.Ren := ⟨fun | 171 => 161 | 243 => 176 | 246 => 183 | 283 => 189 | 284 => 190 | 285 => 191 | 286 => 192 | 129 => 200 | 317 => 199 | 318 => 201 | 319 => 202 | 320 => 203 | 337 => 209 | 338 => 210 | n => n, fun | 3 => 3 | 9 => 9 | 2 => 2 | 4 => 4 | 171 => 205 | 0 => 0 | 53 => 206 | 37 => 107 | 5 => 5 | 173 => 209 | 212 => 218 | 51 => 219 | 20 => 20 | 213 => 220 | 46 => 186 | 232 => 229 | 233 => 230 | n => n, fun | 17 => 0 | 18 => 4 | 19 => 5 | n => n⟩
theorem Tryz.lays171 : Go.Proofs.Lays.n171 Tryz.prog Tryz.lays171_ren := {
  mixed := by kernel_rfl
  f129 := Tryz.func200.trans (congrArg some (by kernel_rfl))
  f171 := Tryz.func161.trans (congrArg some (by kernel_rfl))
  f243 := Tryz.func176.trans (congrArg some (by kernel_rfl))
  f246 := Tryz.func183.trans (congrArg some (by kernel_rfl))
  f283 := Tryz.func189.trans (congrArg some (by kernel_rfl))
  f284 := Tryz.func190.trans (congrArg some (by kernel_rfl))
  f285 := Tryz.func191.trans (congrArg some (by kernel_rfl))
  f286 := Tryz.func192.trans (congrArg some (by kernel_rfl))
  f317 := Tryz.func199.trans (congrArg some (by kernel_rfl))
  f318 := Tryz.func201.trans (congrArg some (by kernel_rfl))
  f319 := Tryz.func202.trans (congrArg some (by kernel_rfl))
  f320 := Tryz.func203.trans (congrArg some (by kernel_rfl))
  f337 := Tryz.func209.trans (congrArg some (by kernel_rfl))
  f338 := Tryz.func210.trans (congrArg some (by kernel_rfl))
  t0 := Tryz.underlying0
  a0 := Tryz.isAgg0
  z0 := Tryz.sizeOf0
  v0 := Tryz.zeroValue0
  t2 := Tryz.underlying2
  a2 := Tryz.isAgg2
  z2 := Tryz.sizeOf2
  v2 := Tryz.zeroValue2
  t3 := Tryz.underlying3
  a3 := Tryz.isAgg3
  z3 := Tryz.sizeOf3
  v3 := Tryz.zeroValue3
  t4 := Tryz.underlying4
  a4 := Tryz.isAgg4
  z4 := Tryz.sizeOf4
  v4 := Tryz.zeroValue4
  t5 := Tryz.underlying5
  a5 := Tryz.isAgg5
  z5 := Tryz.sizeOf5
  v5 := Tryz.zeroValue5
  t9 := Tryz.underlying9
  a9 := Tryz.isAgg9
  z9 := Tryz.sizeOf9
  v9 := Tryz.zeroValue9
  t20 := Tryz.underlying20
  a20 := Tryz.isAgg20
  z20 := Tryz.sizeOf20
  v20 := Tryz.zeroValue20
  t37 := Tryz.underlying107
  a37 := Tryz.isAgg107
  z37 := Tryz.sizeOf107
  v37 := Tryz.zeroValue107
  t46 := Tryz.underlying186
  a46 := Tryz.isAgg186
  z46 := Tryz.sizeOf186
  v46 := Tryz.zeroValue186
  t51 := Tryz.underlying219
  a51 := Tryz.isAgg219
  z51 := Tryz.sizeOf219
  v51 := Tryz.zeroValue219
  t53 := Tryz.underlying206
  a53 := Tryz.isAgg206
  z53 := Tryz.sizeOf206
  v53 := Tryz.zeroValue206
  t171 := Tryz.underlying205
  a171 := Tryz.isAgg205
  z171 := Tryz.sizeOf205
  v171 := Tryz.zeroValue205
  t173 := Tryz.underlying209
  a173 := Tryz.isAgg209
  z173 := Tryz.sizeOf209
  v173 := Tryz.zeroValue209
  t212 := Tryz.underlying218
  a212 := Tryz.isAgg218
  z212 := Tryz.sizeOf218
  v212 := Tryz.zeroValue218
  t213 := Tryz.underlying220
  a213 := Tryz.isAgg220
  z213 := Tryz.sizeOf220
  t232 := Tryz.underlying229
  a232 := Tryz.isAgg229
  z232 := Tryz.sizeOf229
  v232 := Tryz.zeroValue229
  t233 := Tryz.underlying230
  a233 := Tryz.isAgg230
  z233 := Tryz.sizeOf230
  v233 := Tryz.zeroValue230
  g17 := by kernel_rfl
  g18 := by kernel_rfl
  g19 := by kernel_rfl }
theorem Tryz.strconv_Itoa_small (i : Nat) (hi : i < 100) (w : World) :
    Calls Tryz.prog 161 #[.int .i64 i] w fun e w' => e = .returned (.string ⟨(Lib.decDigits i).toArray⟩) ∧ w' = w := Any.strconv_Itoa_small Tryz.lays171 i hi w
end Go.Proofs
namespace Go.Proofs
open Go.RowKit Go.Shelf
attribute [local go_sem ↓] Go.wp_at_zero Go.wp_at_succ

/-- A string of some bytes. -/
def bs (l : List UInt8) : ByteArray := ⟨l.toArray⟩
theorem bs_app (a b : List UInt8) : bs a ++ bs b = bs (a ++ b) := by
  apply ByteArray.ext; simp [bs, ByteArray.data_append]
theorem bs_list (l : List UInt8) : (bs l).data.toList = l := by simp [bs]
theorem bs_size (l : List UInt8) : (bs l).size = l.length := by simp [bs, ByteArray.size]
theorem bs_get (l : List UInt8) (k : Nat) (h : k < (bs l).size) : (bs l)[k]'h = l[k]'(by rwa [bs_size] at h) := by
  show (bs l).data[k] = _
  simp [bs]
theorem bs_inj {a b : List UInt8} (h : bs a = bs b) : a = b := by
  have := congrArg (fun x : ByteArray => x.data.toList) h
  simpa [bs] using this
def strC (l : List UInt8) : List Value := [.string (bs l)]
theorem strC_len (x : List UInt8) : (strC x).length = 1 := rfl
theorem strC_one (x : List UInt8) : ∀ u ∈ strC x, u.oneCell' = true := by simp [strC, Value.oneCell']
def eT : El (List UInt8) := ⟨strC, 1, 145, 9, 16, .string (bs [])⟩
theorem eT_ok : eT.Ok := ⟨strC_len, strC_one, by kernel_rfl, inf_of (by kernel_rfl) (by kernel_rfl) (by kernel_rfl) (by kernel_rfl), rfl, by decide, by decide⟩
theorem flat_strC : ∀ xs : List (List UInt8), flat strC xs = xs.map fun l => Value.string (bs l)
  | [] => rfl
  | x :: r => by simp [flat, strC, flat_strC r]

/-- What strconv.Itoa yields of a number, in this world and all that keep it. -/
def ItoaOk (w : World) (n : Int) : Prop := ∀ w', Below w.heap.size w w' → Calls Tryz.prog 161 #[.int .i64 n] w' fun e w2 => e = .returned (.string (bs (Lib.itoa n))) ∧ Below w'.heap.size w' w2
theorem tab_keep {P : Program} {w w' : World} {name : String} {k : IntKind} {zs : List Int} (h : Lib.TabIs P w name k zs) (hb : Below w.heap.size w w') : Lib.TabIs P w' name k zs := by
  unfold Lib.TabIs World.var? at *
  cases hg : P.globalNamed name with
  | none => rw [hg] at h; cases h
  | some g =>
    rw [hg] at h
    simp only [Option.bind_some] at h ⊢
    by_cases hl : g < w.heap.size
    · rw [hb.block g hl]; exact h
    · rw [Array.getElem?_eq_none (by omega)] at h; cases h
/-- Itoa of all numbers from 0 to a million million million. -/
def ItoaAll (w : World) : Prop := ∀ x : Int, 0 ≤ x → x ≤ 1000000000000000000 → ItoaOk w x
theorem ItoaAll.keep {w w' : World} (h : ItoaAll w) (hb : Below w.heap.size w w') : ItoaAll w' := fun x h0 h1 w2 h2 => h x h0 h1 w2 (nextB hb h2)
theorem ItoaAll.call {w : World} (h : ItoaAll w) (x : Int) (h0 : 0 ≤ x) (h1 : x ≤ 1000000000000000000) : Calls Tryz.prog 161 #[.int .i64 x] w fun e w2 => e = .returned (.string (bs (Lib.itoa x))) ∧ Below w.heap.size w w2 := h x h0 h1 w (Below.refl _ _)
theorem itoa_tab {w : World} (htab : Lib.TabIs Tryz.prog w "internal/strconv.uint64pow10" .u64 Lib.pow10Tab) : ItoaAll w := by
  intro x h0 h1 w' hb
  refine (Tryz.strconv_Itoa x (by omega) (by omega) w' (tab_keep htab hb)).mono fun e w2 ⟨he, k, os, hw⟩ => ⟨he, ?_⟩
  rw [hw]
  exact ⟨rfl, rfl, rfl, by simp [Sort.grow], fun j hj => by simp [Sort.grow, Array.getElem?_append, hj]⟩

/-- strings.Join of a list that is not empty. -/
theorem join_c (A : Option Addr) (n c : Nat) (xs : List (List UInt8)) (sep : List UInt8) (hn : 0 < n) (hc : n ≤ c) (hl : (Lib.join xs sep).length ≤ 100000000) (hm : n ≤ 1000000) (w : World) (hs : SlOf strC 1 w A n xs) :
    Calls Tryz.prog 164 #[.slice A n c, .string (bs sep)] w fun e w' => e = .returned (.string (bs (Lib.join xs sep))) ∧ Below w.heap.size w w' := by
  obtain ⟨b, o, rfl⟩ := hs.addr hn
  have := Tryz.strings_Join b o c (xs.map bs) (bs sep) w (fun j x hx => by
    rw [List.getElem?_map, Option.map_eq_some_iff] at hx
    obtain ⟨l, hl, rfl⟩ := hx
    have := hs.range strC_len hl 0 _ rfl
    simpa using this) (hs.lt strC_len (by omega) hn) (by rw [List.length_map, hs.1]; omega) (by rw [List.length_map, hs.1]; exact hc) (by
    simp only [List.map_map, Function.comp_def, bs_list]
    have e : xs.map (fun x => x) = xs := by simp
    rw [e]; omega)
  rw [List.length_map, hs.1] at this
  simp only [List.map_map, Function.comp_def, bs_list] at this
  have e : xs.map (fun x => x) = xs := by simp
  rw [e] at this
  exact this
def lineL (ws : List (List UInt8)) : List UInt8 := Lib.join ws [32]
theorem line_c (A : Option Addr) (n c : Nat) (xs : List (List UInt8)) (hn : 0 < n) (hc : n ≤ c) (hl : (lineL xs).length ≤ 100000000) (hm : n ≤ 1000000) (w : World) (hs : SlOf strC 1 w A n xs) :
    Calls Tryz.prog 160 #[.slice A n c] w fun e w' => e = .returned (.string (bs (lineL xs))) ∧ Below w.heap.size w w' := by
  have HJ := Lib.hid (join_c A n c xs [32] hn hc hl hm w hs)
  clear hs
  go_enter Tryz.func160, Tryz.ntmps160
  go_wp2_with (go_at_call 164; refine HJ.out.mono ?_; rintro e w1 ⟨rfl, hb⟩; have HB := Lib.hid hb; clear hb)
  exact bodyPost_ret (results_tmp rfl _ _ _) rfl ⟨rfl, HB.out⟩

/-- The word of a fate. -/
def wordF (f : Int) : List UInt8 := if f = 1 then [115, 116, 97, 121, 115] else if f = 2 then [100, 101, 115, 101, 114, 116, 115] else if f = 3 then [100, 105, 101, 115] else []
theorem ta_w (a b : TypeId) (h : (b == 181 || b == 182 || b == 183) = true) (h2 : (a == 181 || a == 182 || a == 183) = true) (w : World) : (Instr.typeAssert (.iface a (.agg #[])) 156 b true).run Tryz.prog w = .ok (.tuple #[.agg #[], .bool (a == b)]) w := by
  simp only [Bool.or_eq_true, beq_iff_eq] at h h2
  rcases h with (rfl | rfl) | rfl <;> rcases h2 with (rfl | rfl) | rfl <;> simp [Instr.typeAssert, go_sem]
theorem wordOf_c (f : Int) (hf : f = 1 ∨ f = 2 ∨ f = 3) (w : World) : Calls Tryz.prog 162 #[.int .i64 f] w fun e w' => e = .returned (.string (bs (wordF f))) ∧ Below w.heap.size w w' := by
  have HF := Lib.hid (fateOf_c f w)
  rcases hf with rfl | rfl | rfl
  · have t1 : ∀ w : World, (Instr.typeAssert (.iface 181 (.agg #[])) 156 181 true).run Tryz.prog w = .ok (.tuple #[.agg #[], .bool true]) w := ta_w 181 181 rfl rfl
    go_enter Tryz.func162, Tryz.ntmps162
    go_wp2_with (go_at_call 135; refine HF.out.mono ?_; rintro e w1 ⟨rfl, rfl⟩; rw [show fateV 1 = .iface 181 (.agg #[]) from rfl])
    exact bodyPost_ret (results_tmp rfl _ _ _) rfl ⟨rfl, Below.refl _ _⟩
  · have t1 : ∀ w : World, (Instr.typeAssert (.iface 182 (.agg #[])) 156 181 true).run Tryz.prog w = .ok (.tuple #[.agg #[], .bool false]) w := ta_w 182 181 rfl rfl
    have t2 : ∀ w : World, (Instr.typeAssert (.iface 182 (.agg #[])) 156 182 true).run Tryz.prog w = .ok (.tuple #[.agg #[], .bool true]) w := ta_w 182 182 rfl rfl
    go_enter Tryz.func162, Tryz.ntmps162
    go_wp2_with (go_at_call 135; refine HF.out.mono ?_; rintro e w1 ⟨rfl, rfl⟩; rw [show fateV 2 = .iface 182 (.agg #[]) from rfl])
    exact bodyPost_ret (results_tmp rfl _ _ _) rfl ⟨rfl, Below.refl _ _⟩
  · have t1 : ∀ w : World, (Instr.typeAssert (.iface 183 (.agg #[])) 156 181 true).run Tryz.prog w = .ok (.tuple #[.agg #[], .bool false]) w := ta_w 183 181 rfl rfl
    have t2 : ∀ w : World, (Instr.typeAssert (.iface 183 (.agg #[])) 156 182 true).run Tryz.prog w = .ok (.tuple #[.agg #[], .bool false]) w := ta_w 183 182 rfl rfl
    have t3 : ∀ w : World, (Instr.typeAssert (.iface 183 (.agg #[])) 156 183 true).run Tryz.prog w = .ok (.tuple #[.agg #[], .bool true]) w := ta_w 183 183 rfl rfl
    go_enter Tryz.func162, Tryz.ntmps162
    go_wp2_with (go_at_call 135; refine HF.out.mono ?_; rintro e w1 ⟨rfl, rfl⟩; rw [show fateV 3 = .iface 183 (.agg #[]) from rfl])
    exact bodyPost_ret (results_tmp rfl _ _ _) rfl ⟨rfl, Below.refl _ _⟩

/-- What a line adds to the check, from place k on. -/
def sumP : Int → List UInt8 → Int
  | _, [] => 0
  | k, x :: r => (x.toNat : Int) * (k + 1) + sumP (k + 1) r
def sumT (ls : List (List UInt8)) : Int := sumI (ls.map (sumP 0))
theorem sumP_snoc (y : UInt8) : ∀ (xs : List UInt8) (k : Int), sumP k (xs ++ [y]) = sumP k xs + (y.toNat : Int) * (k + xs.length + 1)
  | [], k => by simp [sumP]
  | x :: r, k => by
    simp only [List.cons_append, sumP, sumP_snoc y r (k + 1), List.length_cons]
    have : k + 1 + (r.length : Int) + 1 = k + ((r.length + 1 : Nat) : Int) + 1 := by omega
    rw [this]; omega
theorem byte_term {x k : Int} (hx : 0 ≤ x ∧ x ≤ 255) (hk : 0 ≤ k ∧ k ≤ 1000000) : 0 ≤ x * k ∧ x * k ≤ 255000000 := by
  have h1 : 0 ≤ x * k := Int.mul_nonneg hx.1 hk.1
  have h2 : x * k ≤ 255 * 1000000 := Int.mul_le_mul hx.2 hk.2 hk.1 (by omega)
  omega
theorem u8_bd (x : UInt8) : 0 ≤ (x.toNat : Int) ∧ (x.toNat : Int) ≤ 255 := by have := x.toNat_lt; omega
theorem sumP_bd : ∀ (xs : List UInt8) (k : Int), 0 ≤ k → k + xs.length ≤ 900000 → 0 ≤ sumP k xs ∧ sumP k xs ≤ xs.length * 255000000
  | [], _, _, _ => by simp [sumP]
  | x :: r, k, h0, h1 => by
    simp only [List.length_cons] at h1 ⊢
    have a := sumP_bd r (k + 1) (by omega) (by omega)
    have b := byte_term (x := x.toNat) (k := k + 1) (u8_bd x) (by omega)
    simp only [sumP]
    omega
theorem sumT_bd {ls : List (List UInt8)} (h : ∀ l ∈ ls, l.length ≤ 100000) (hn : ls.length ≤ 10000) : 0 ≤ sumT ls ∧ sumT ls ≤ 255000000000000000 := by
  have hb : ∀ x ∈ ls.map (sumP 0), 0 ≤ x ∧ x ≤ 25500000000000 := fun x hx => by
    obtain ⟨l, hl, rfl⟩ := List.mem_map.1 hx
    have h1 := h l hl
    have := sumP_bd l 0 (by omega) (by omega)
    omega
  have h1 := sumI_bd (ls.map (sumP 0)) 25500000000000 (fun x hx => by have := hb x hx; omega)
  have h2 : (ls.map (sumP 0)).length ≤ 10000 := by simpa using hn
  exact ⟨sumI_nonneg _ (fun x hx => (hb x hx).1), by unfold sumT; omega⟩
/-- The check of some lines. -/
def chkT (ls : List (List UInt8)) : List UInt8 := (Lib.itoa (1000 + sumT ls % 113)).drop 1
end Go.Proofs
namespace Go.Proofs
open Go.RowKit Go.Shelf
attribute [local go_sem ↓] Go.wp_at_zero Go.wp_at_succ

theorem bs_take (l : List UInt8) (m : Nat) : (bs l).extract 0 m = bs (l.take m) := by
  apply ByteArray.ext
  simp [bs, ByteArray.data_extract]
theorem bs_drop (l : List UInt8) (m : Nat) : (bs l).extract m (bs l).size = bs (l.drop m) := by
  apply ByteArray.ext
  rw [bs_size]
  simp [bs, ByteArray.data_extract, List.take_of_length_le]
theorem w64 {x : Int} (h1 : -9223372036854775808 ≤ x) (h2 : x ≤ 9223372036854775807) : wrap64 x = x := by unfold wrap64; omega
theorem wI {x : Int} (h1 : -9223372036854775808 ≤ x) (h2 : x ≤ 9223372036854775807) : IntKind.i64.wrap x = x := by rw [IntKind.wrap_i64]; omega
theorem decDigits_pos (n : Nat) : 0 < (Lib.decDigits n).length := by
  rw [Lib.decDigits]; split
  · simp
  · simp
theorem itoa_pos {n : Int} (h : 0 ≤ n) : 0 < (Lib.itoa n).length := by
  rw [Lib.itoa, if_neg (by omega)]; exact decDigits_pos _
theorem decDigits_le : ∀ (k n : Nat), n < 10 ^ k → 0 < k → (Lib.decDigits n).length ≤ k
  | 0, _, _, h => by omega
  | 1, n, h, _ => by
    rw [Lib.decDigits, dif_pos (by omega)]; simp
  | k + 2, n, h, _ => by
    rw [Lib.decDigits]; split
    · simp
    · have := decDigits_le (k + 1) (n / 10) (by rw [Nat.pow_succ] at h; omega) (by omega)
      simp; omega
theorem itoa_len {n : Int} (h : 0 ≤ n) (k : Nat) (hk : n < (10 ^ k : Nat)) (h0 : 0 < k) : (Lib.itoa n).length ≤ k := by
  rw [Lib.itoa, if_neg (by omega)]; exact decDigits_le k _ (by omega) h0

theorem chk_step (T S x k : Int) (hT : 0 ≤ T ∧ T ≤ 500000000000000000) (hS : 0 ≤ S ∧ S ≤ 500000000000000000) (hx : 0 ≤ x ∧ x ≤ 255) (hk : 0 ≤ k ∧ k ≤ 100000) :
    wrap64 (T + S + wrap64 (wrap64 x * (k + 1))) = T + (S + x * (0 + k + 1)) := by
  have h := byte_term (x := x) (k := k + 1) hx (by omega)
  rw [w64 (x := x) (by omega) (by omega), w64 (x := x * (k + 1)) (by omega) (by omega), w64 (by omega) (by omega), show 0 + k + 1 = k + 1 by omega]
  omega

theorem sumT_snoc (ls : List (List UInt8)) (x : List UInt8) : sumT (ls ++ [x]) = sumT ls + sumP 0 x := by
  unfold sumT; rw [List.map_append]; exact sumI_snoc _ _

set_option maxHeartbeats 1000000 in
theorem chk_c (A : Option Addr) (n c : Nat) (ls : List (List UInt8)) (hn : n ≤ 10000) (w : World) (hs : SlOf strC 1 w A n ls) (hr : ∀ l ∈ ls, l.length ≤ 100000) (hI : ItoaAll w) :
    Calls Tryz.prog 163 #[.slice A n c] w fun e w' => e = .returned (.string (bs (chkT ls))) ∧ Below w.heap.size w w' := by
  have HS := Lib.hid hs; have HN := Lib.hid hs.1; have HR := Lib.hid hr; have HI := Lib.hid hI
  have HTB := Lib.hid (sumT_bd hr (by rw [hs.1]; exact hn))
  clear hs hr hI
  go_enter Tryz.func163, Tryz.ntmps163
  go_wp2
  go_loop [3, 10] (fun s i => ∃ k : Nat, k ≤ n ∧ i = .int .i64 k ∧ s = .int .i64 (sumT (ls.take k))) (fun _ i => n - (intOf i).toNat)
  case atStart => exact ⟨0, by omega, rfl, rfl⟩
  case round =>
    obtain ⟨k, hk, rfl, rfl⟩ := hrel
    by_cases hkn : k < n
    · have hkl : k < ls.length := by rw [HN.out]; exact hkn
      have hx := List.getElem?_eq_getElem hkl
      have hxl := HR.out _ (List.getElem_mem hkl)
      have HT := Lib.hid (List.take_append_getElem hkl)
      obtain ⟨x, hxx⟩ : ∃ x, x = ls[k] := ⟨_, rfl⟩
      rw [← hxx] at hx HT hxl
      obtain ⟨b, o, he⟩ := HS.out.addr (by omega)
      subst he
      have hcell : w.cell? ⟨b, o + k, none⟩ = some (.string (bs x)) := by have := (HS.out.range strC_len hx) 0 _ rfl; simpa using this
      have HTs := Lib.hid (show sumT (ls.take (k + 1)) = sumT (ls.take k) + sumP 0 x by rw [← HT.out, sumT_snoc])
      have HTk := Lib.hid (sumT_bd (ls := ls.take k) (fun l hl => HR.out l (List.mem_of_mem_take hl)) (by simp; omega))
      have HXL := Lib.hid hxl
      have hsz : ((bs x).size : Int) = x.length := by rw [bs_size]
      obtain ⟨m, hm⟩ : ∃ m, m = x.length := ⟨_, rfl⟩
      rw [← hm] at hsz hxl
      have HM := Lib.hid hm
      clear hx hxx hm
      go_wp2
      go_loop [3, 16] (fun s i => ∃ j : Nat, j ≤ m ∧ i = .int .i64 j ∧ s = .int .i64 (sumT (ls.take k) + sumP 0 (x.take j))) (fun _ i => m - (intOf i).toNat)
      case atStart => exact ⟨0, by omega, rfl, by simp [sumP]⟩
      case round =>
        obtain ⟨j, hj, rfl, rfl⟩ := hrel
        by_cases hjm : j < m
        · have hjl : j < x.length := by rw [← HM.out]; exact hjm
          have hjs : j < (bs x).size := by rw [bs_size]; exact hjl
          have HJ := Lib.hid (List.take_append_getElem hjl)
          obtain ⟨y, hyy⟩ : ∃ y, y = x[j]'hjl := ⟨_, rfl⟩
          rw [← hyy] at HJ
          have hg : (bs x)[j]'hjs = y := by rw [bs_get]; exact hyy.symm
          have hRj := sumP_bd (x.take j) 0 (by omega) (by simp; omega)
          have hstep := chk_step (sumT (ls.take k)) (sumP 0 (x.take j)) y.toNat j ⟨HTk.out.1, by have := HTk.out.2; omega⟩ ⟨hRj.1, by have := hRj.2; simp at this; omega⟩ (u8_bd y) (by omega)
          have HW := Lib.hid (hstep.trans (show _ = sumT (ls.take k) + sumP 0 (x.take (j + 1)) by rw [← HJ.out, sumP_snoc]; simp [Nat.min_eq_left (Nat.le_of_lt hjl)]))
          clear hRj hstep hyy
          go_wp2
          go_round
          case rel => exact ⟨j + 1, by omega, by go_num, by rw [HW.out]⟩
          case measure => simp [intOf]; omega
        · have hje : j = m := by omega
          subst hje
          have HE := Lib.hid (show x.take j = x from List.take_of_length_le (by rw [← HM.out]; exact Nat.le_refl _))
          rw [HE.out, ← HTs.out]
          go_wp2
          go_round
          case rel => exact ⟨k + 1, by omega, by go_num, rfl⟩
          case measure => simp [intOf]; omega
    · have hke : k = n := by omega
      subst hke
      rw [List.take_of_length_le (by rw [HN.out]; exact Nat.le_refl _)]
      have ht := HTB.out
      have HC := Lib.hid (show chkT ls = (Lib.itoa (1000 + sumT ls % 113)).drop 1 from rfl)
      generalize sumT ls = T at *
      have hm : T.tmod 113 = T % 113 := Int.tmod_eq_emod_of_nonneg ht.1
      have hl0 := itoa_pos (n := 1000 + T % 113) (by omega)
      have hd := bs_drop (Lib.itoa (1000 + T % 113)) 1
      have hsz : 1 ≤ (bs (Lib.itoa (1000 + T % 113))).size := by rw [bs_size]; omega
      have HK := Lib.hid fun w' hb => HI.out (1000 + T % 113) (by omega) (by omega) w' hb
      have HB := Lib.hid (Below.refl w.heap.size w)
      clear hl0
      go_wp2_with (go_at_call 161; refine (HK.out _ HB.out).mono ?_; rintro e w3 ⟨rfl, hb⟩; replace HB := Lib.hid (nextB HB.out hb); clear hb)
      exact bodyPost_ret (results_tmp rfl _ _ _) rfl ⟨by rw [HC.out, List.drop_one]; rfl, HB.out⟩
end Go.Proofs
namespace Go.Proofs
open Go.RowKit Go.Shelf
attribute [local go_sem ↓] Go.wp_at_zero Go.wp_at_succ

/-- The parts of a text between bytes c. -/
def pieces (c : UInt8) : List UInt8 → List (List UInt8)
  | [] => [[]]
  | x :: r => if x == c then [] :: pieces c r else match pieces c r with | p :: ps => (x :: p) :: ps | [] => [[x]]
theorem pieces_ne (c : UInt8) : ∀ s, pieces c s ≠ []
  | [] => by simp [pieces]
  | x :: r => by
    simp only [pieces]
    split
    · simp
    · split <;> simp
theorem pieces_len (c : UInt8) : ∀ s, (pieces c s).length = Lib.countByte s c + 1
  | [] => rfl
  | x :: r => by
    have ih := pieces_len c r
    simp only [pieces, Lib.countByte, List.count_cons] at ih ⊢
    by_cases h : (x == c) = true
    · simp [h, ih]
    · rw [if_neg h, if_neg h]
      cases hp : pieces c r with
      | nil => exact absurd hp (pieces_ne c r)
      | cons p ps => rw [hp] at ih; simpa using ih
theorem pieces_at (c : UInt8) : ∀ (s : List UInt8) (m : Nat), Lib.indexByte s c = m → pieces c s = s.take m :: pieces c (s.drop (m + 1))
  | [], m, h => by simp [Lib.indexByte] at h
  | x :: r, m, h => by
    unfold Lib.indexByte at h
    by_cases hx : (x == c) = true
    · rw [if_pos hx] at h
      obtain rfl : m = 0 := by omega
      simp [pieces, hx]
    · rw [if_neg hx] at h
      split at h
      · omega
      · have hge := Lib.indexByte_ge r c
        rename_i hl
        have hne : Lib.indexByte r c ≠ -1 := fun e => hl (beq_iff_eq.2 e)
        obtain ⟨m', rfl⟩ : ∃ m', m = m' + 1 := ⟨m - 1, by omega⟩
        have ih := pieces_at c r m' (by push_cast at h; omega)
        simp only [pieces, hx, Bool.false_eq_true, if_false, ih, List.take_succ_cons, List.drop_succ_cons]
theorem pieces_none (c : UInt8) : ∀ (s : List UInt8), Lib.indexByte s c = -1 → pieces c s = [s]
  | [], _ => rfl
  | x :: r, h => by
    unfold Lib.indexByte at h
    by_cases hx : (x == c) = true
    · rw [if_pos hx] at h; omega
    · rw [if_neg hx] at h
      split at h
      · rename_i hl
        rw [pieces, if_neg hx, pieces_none c r (beq_iff_eq.1 hl)]
      · have := Lib.indexByte_ge r c
        omega
theorem index_lt {s : List UInt8} {c : UInt8} {m : Nat} (h : Lib.indexByte s c = m) : m < s.length := (List.getElem?_eq_some_iff.1 (Lib.indexByte_some h).1).1
theorem pieces_bd (c : UInt8) (s : List UInt8) : Lib.countByte s c ≤ s.length := List.count_le_length
theorem count_drop {c : UInt8} {s : List UInt8} {m : Nat} (h : Lib.indexByte s c = m) : Lib.countByte s c = Lib.countByte (s.drop (m + 1)) c + 1 := by
  have h1 := pieces_len c s
  rw [pieces_at c s m h, List.length_cons, pieces_len] at h1
  omega
theorem count_pos {c : UInt8} {s : List UInt8} (h : 0 < Lib.countByte s c) : ∃ m : Nat, Lib.indexByte s c = m := by
  have hge := Lib.indexByte_ge s c
  by_cases hn : Lib.indexByte s c = -1
  · have h1 := pieces_len c s
    rw [pieces_none c s hn] at h1
    simp at h1; omega
  · exact ⟨(Lib.indexByte s c).toNat, by omega⟩
theorem count_zero {c : UInt8} {s : List UInt8} (h : Lib.countByte s c = 0) : pieces c s = [s] := by
  have hge := Lib.indexByte_ge s c
  by_cases hn : Lib.indexByte s c = -1
  · exact pieces_none c s hn
  · have := count_drop (c := c) (s := s) (m := (Lib.indexByte s c).toNat) (by omega)
    omega
theorem make145 (n : Nat) (hn : n ≤ 1000000) (w : World) : (Instr.makeSlice 145 (.int .i64 (n : Int)) (.int .i64 (n : Int))).run Tryz.prog w = .ok (.slice (some ⟨w.heap.size, 0, none⟩) n n) (w.alloc (.cells (madeCells #[.string (bs [])] (n * 1)) 9)) := eT.makes eT_ok n hn w
/-- A row of strings of which the first ones are laid. -/
def StrRow (w : World) (g n : Nat) (xs : List (List UInt8)) : Prop := ∃ cur, Has w g 9 cur ∧ cur.size = n ∧ ∀ (j : Nat) x, xs[j]? = some x → cur[j]? = some (.string (bs x))
theorem StrRow.keep {w w' : World} {g n : Nat} {xs : List (List UInt8)} (h : StrRow w g n xs) (hb : Below w.heap.size w w') : StrRow w' g n xs := by
  obtain ⟨cur, h1, h2, h3⟩ := h
  exact ⟨cur, h1.after hb, h2, h3⟩
theorem StrRow.set {w : World} {g n : Nat} {xs : List (List UInt8)} (h : StrRow w g n xs) (hn : xs.length < n) (y : List UInt8) : StrRow (w.setCell ⟨g, xs.length, none⟩ (.string (bs y))) g n (xs ++ [y]) := by
  obtain ⟨cur, h1, h2, h3⟩ := h
  refine ⟨_, h1.set xs.length _, by simpa using h2, fun j x hx => ?_⟩
  rw [Array.getElem?_setIfInBounds]
  by_cases hj : xs.length = j
  · subst hj
    rw [List.getElem?_append_right (Nat.le_refl _)] at hx
    simp at hx; subst hx
    simp; omega
  · rw [if_neg hj]
    have hl : j < xs.length := by
      have := (List.getElem?_eq_some_iff.1 hx).1
      simp at this; omega
    rw [List.getElem?_append_left hl] at hx
    exact h3 j x hx
theorem StrRow.sl {w : World} {g n : Nat} {xs : List (List UInt8)} (h : StrRow w g n xs) (hn : xs.length = n) : SlOf strC 1 w (some ⟨g, 0, none⟩) n xs := by
  obtain ⟨cur, h1, h2, h3⟩ := h
  refine ⟨hn, by rw [flat_len strC_len, hn], fun _ => ⟨g, 0, rfl, fun j u hu => ?_⟩⟩
  rw [Nat.zero_add, h1.cell]
  rw [flat_strC, List.getElem?_map] at hu
  cases hx : xs[j]? with
  | none => rw [hx] at hu; cases hu
  | some x =>
    rw [hx] at hu
    simp at hu; subst hu
    exact h3 j x hx

theorem StrRow.own {w : World} {g n base : Nat} {xs : List (List UInt8)} (h : StrRow w g n xs) (hn : xs.length = n) (hb : base ≤ g) (hm : n ≤ 1000000) : Own eT base (.slice (some ⟨g, 0, none⟩) n n) xs w := by
  obtain ⟨cur, h1, h2, h3⟩ := h
  refine Own.of_has eT_ok h1 hb hn (by rw [h2]; simp [eT]) ?_ (by unfold maxLen; omega)
  rw [show flat eT.f xs = xs.map fun l => Value.string (bs l) from flat_strC xs]
  refine List.ext_getElem? fun j => ?_
  rw [Array.getElem?_toList, List.getElem?_map]
  by_cases hj : j < xs.length
  · rw [h3 j xs[j] (List.getElem?_eq_getElem hj), List.getElem?_eq_getElem hj]; rfl
  · rw [List.getElem?_eq_none (by omega), Array.getElem?_eq_none (by omega)]; rfl

set_option maxHeartbeats 2000000 in
set_option maxRecDepth 20000 in
theorem genSplit_c (c : UInt8) (s : List UInt8) (hs : s.length ≤ 100000) (w : World) :
    Calls Tryz.prog 180 #[.string (bs s), .string ⟨#[c]⟩, .int .i64 0, .int .i64 (-1)] w fun e w' => ∃ g, e = .returned (.slice (some ⟨g, 0, none⟩) (pieces c s).length (pieces c s).length) ∧ Own eT w.heap.size (.slice (some ⟨g, 0, none⟩) (pieces c s).length (pieces c s).length) (pieces c s) w' ∧ Below w.heap.size w w' := by
  have hpl := pieces_len c s
  have hcb := pieces_bd c s
  obtain ⟨n, hn⟩ : ∃ n, n = Lib.countByte s c := ⟨_, rfl⟩
  have hmk : ∀ W : World, (Instr.makeSlice 145 (.int .i64 ((n : Int) + 1)) (.int .i64 ((n : Int) + 1))).run Tryz.prog W = .ok (.slice (some ⟨W.heap.size, 0, none⟩) (n + 1) (n + 1)) (W.alloc (.cells (madeCells #[.string (bs [])] (n + 1)) 9)) := fun W => by
    have := make145 (n + 1) (by omega) W
    rw [Nat.mul_one] at this
    exact_mod_cast this
  have HC := Lib.hid fun (W : World) => Tryz.strings_Count_one (bs s) c W
  simp only [bs_list] at HC
  have HI := Lib.hid fun (r : List UInt8) (W : World) => (show Calls Tryz.prog 188 #[.string (bs r), .string ⟨#[c]⟩] W fun e w' => e = .returned (.int .i64 (Lib.indexByte r c)) ∧ w' = W by have := Tryz.strings_Index_one (bs r) c W; rwa [bs_list] at this)
  rw [← hn] at hpl HC
  have hmin : min ((n : Int) + 1) (wrap64 (((bs s).size : Int) + 1)) = (n : Int) + 1 := by
    rw [bs_size, w64 (by omega) (by omega)]; omega
  have w1 : IntKind.i64.wrap ((n : Int) + 1) = (n : Int) + 1 := wI (by omega) (by omega)
  have w2 : IntKind.i64.wrap ((n : Int) + 1 - 1) = (n : Int) := by rw [show (n : Int) + 1 - 1 = n by omega]; exact wI (by omega) (by omega)
  have HN := Lib.hid hn; have HPL := Lib.hid hpl
  have hn5 : n ≤ 100000 := by omega
  have S0 := Lib.hid (show StrRow (w.alloc (.cells (madeCells #[.string (bs [])] (n + 1)) 9)) w.heap.size (n + 1) [] from ⟨_, Has.new w 9 _, by rw [size_madeCells], fun j x hx => by simp at hx⟩)
  have B0 := Lib.hid (newB (Below.refl w.heap.size w) (.cells (madeCells #[.string (bs [])] (n + 1)) 9))
  clear hn hpl hcb
  go_enter Tryz.func180, Tryz.ntmps180
  go_wp2_with (go_at_call 187; refine (HC.out _).mono ?_; rintro e w3 ⟨rfl, rfl⟩)
  clear hmin hmk
  generalize w3.alloc (.cells (madeCells #[.string (bs [])] (n + 1)) 9) = w4 at *
  go_loopw [0, 10] (fun v i wr => ∃ (k : Nat) (r : List UInt8) (ps : List (List UInt8)), i = .int .i64 k ∧ v = .string (bs r) ∧ ps.length = k ∧ pieces c s = ps ++ pieces c r ∧ Lib.countByte r c + k = n ∧ r.length ≤ 100000 ∧ Below w3.heap.size w3 wr ∧ StrRow wr w3.heap.size (n + 1) ps) (fun _ i _ => n - (intOf i).toNat)
  case atStart => exact ⟨0, s, [], rfl, rfl, rfl, rfl, by rw [HN.out]; rfl, hs, B0.out, S0.out⟩
  case round =>
    obtain ⟨k, r, ps, rfl, rfl, hk, hp, hcn, hr, hB, hS⟩ := hrel
    have HB := Lib.hid hB; have HS := Lib.hid hS; have HP := Lib.hid hp; have HK := Lib.hid hk
    obtain ⟨cur, hcur, hcs, hcx⟩ := id hS
    have cc : wr.cell? ⟨w3.heap.size, k, none⟩ = some (cur[k]'(by omega)) := by rw [hcur.cell]; exact Array.getElem?_eq_getElem (by omega)
    have cf : wr.frozen? ⟨w3.heap.size, k, none⟩ = false := hcur.frozen _
    generalize cur[k]'(by omega) = cv at cc
    clear hB hS hp hk hcx hcur hcs cur
    by_cases hkn : k < n
    · obtain ⟨m, hm⟩ := count_pos (c := c) (s := r) (by omega)
      have hlt := index_lt hm
      have HPm := Lib.hid (pieces_at c r m hm)
      have hcd := count_drop hm
      have HIr := Lib.hid (HI.out r)
      rw [hm] at HIr
      have z1 : ((m : Int)) ≤ ((bs r).size : Int) := by rw [bs_size]; omega
      have z2 : ((m : Int) + 1) ≤ ((bs r).size : Int) := by rw [bs_size]; omega
      have z3 : ((m : Int) + 1).toNat = m + 1 := by omega
      have z4 : IntKind.i64.wrap ((m : Int) + 1) = (m : Int) + 1 := wI (by omega) (by omega)
      have HT := Lib.hid (bs_take r m); have HD := Lib.hid (bs_drop r (m + 1))
      clear hm
      go_wp2_with (go_at_call 188; refine (HIr.out _).mono ?_; rintro e w5 ⟨rfl, rfl⟩)
      go_roundw
      case rel => exact ⟨k + 1, r.drop (m + 1), ps ++ [r.take m], by go_num, by rw [HD.out], by simp [HK.out], by rw [HP.out, HPm.out]; simp, by omega, by simp; omega, setB HB.out (by show w3.heap.size ≤ w3.heap.size; omega) _, by
        rw [HT.out, ← HK.out]
        exact HS.out.set (by rw [HK.out]; omega) _⟩
      case measure => first | (simp [intOf]; done) | (simp [intOf]; omega)
    · have hkn2 : k = n := by omega
      subst hkn2
      have h0 := count_zero (c := c) (s := r) (by omega)
      have HS2 := Lib.hid (HS.out.set (by rw [HK.out]; omega) r)
      have HP2 := Lib.hid (show pieces c s = ps ++ [r] by rw [HP.out, h0])
      have hb2 := HPL.out
      go_wp2
      refine bodyPost_ret (results_tmp rfl _ _ _) rfl ⟨w3.heap.size, ?_, ?_, setB HB.out (by show w3.heap.size ≤ w3.heap.size; omega) _⟩
      · rw [hb2]; rfl
      · have hlen : (ps ++ [r]).length = k + 1 := by rw [← HP2.out, hb2]
        have h := HS2.out.own (base := w3.heap.size) hlen (Nat.le_refl _) (by omega)
        rw [HK.out] at h
        rw [hb2, HP2.out]
        exact h
/-- strings.Split at a separator of one byte. -/
theorem split_c (c : UInt8) (s : List UInt8) (hs : s.length ≤ 100000) (w : World) :
    Calls Tryz.prog 166 #[.string (bs s), .string ⟨#[c]⟩] w fun e w' => ∃ g, e = .returned (.slice (some ⟨g, 0, none⟩) (pieces c s).length (pieces c s).length) ∧ Own eT w.heap.size (.slice (some ⟨g, 0, none⟩) (pieces c s).length (pieces c s).length) (pieces c s) w' ∧ Below w.heap.size w w' := by
  have HG := Lib.hid (genSplit_c c s hs)
  go_enter Tryz.func166, Tryz.ntmps166
  go_wp2_with (go_at_call 180; refine (HG.out _).mono ?_; rintro e w1 ⟨g, rfl, hsl, hb⟩; have HSl := Lib.hid hsl; have HB := Lib.hid hb; clear hsl hb)
  exact bodyPost_ret (results_tmp rfl _ _ _) rfl ⟨g, rfl, HSl.out, HB.out⟩
end Go.Proofs
namespace Go.Proofs
open Go.RowKit Go.Shelf
attribute [local go_sem ↓] Go.wp_at_zero Go.wp_at_succ

theorem joinTail_len {sep : List UInt8} {B : Nat} : ∀ (ls : List (List UInt8)), (∀ l ∈ ls, l.length ≤ B) → (Lib.joinTail sep ls).length ≤ ls.length * (B + sep.length)
  | [], _ => by simp [Lib.joinTail]
  | x :: r, h => by
    have ih := joinTail_len (sep := sep) r (fun l hl => h l (List.mem_cons_of_mem _ hl))
    have hx := h x (List.mem_cons_self ..)
    simp only [Lib.joinTail, List.map_cons, List.flatten_cons, List.length_append, List.length_cons] at ih ⊢
    rw [Nat.succ_mul]; omega
theorem join_len {sep : List UInt8} {B : Nat} (ls : List (List UInt8)) (h : ∀ l ∈ ls, l.length ≤ B) : (Lib.join ls sep).length ≤ ls.length * (B + sep.length) := by
  cases ls with
  | nil => simp [Lib.join_nil]
  | cons x r =>
    rw [Lib.join_cons, List.length_append, List.length_cons, Nat.succ_mul]
    have h1 := joinTail_len (sep := sep) r (fun l hl => h l (List.mem_cons_of_mem _ hl))
    have h2 := h x (List.mem_cons_self ..)
    omega

/-- The lines of a season. -/
def wSeason : List UInt8 := [115, 101, 97, 115, 111, 110]
def wPerson : List UInt8 := [112, 101, 114, 115, 111, 110]
def wLanding : List UInt8 := [108, 97, 110, 100, 105, 110, 103]
def wEnd : List UInt8 := [101, 110, 100]
def headL (n m : Nat) : List UInt8 := lineL [wSeason, Lib.itoa n, Lib.itoa m]
def perL (p : Pe) : List UInt8 := lineL [wPerson, Lib.itoa p.p, Lib.itoa p.d, wordF p.f]
def landW (l : La) : List (List UInt8) := [wLanding, Lib.itoa l.g, Lib.itoa l.c] ++ (ints (membersL l.w)).map Lib.itoa
def landL (l : La) : List UInt8 := lineL (landW l)
def linesF (ps : List Pe) (ls : List La) : List (List UInt8) := headL ps.length ls.length :: (ps.map perL ++ ls.map landL)
def endLF (ps : List Pe) (ls : List La) : List UInt8 := lineL [wEnd, chkT (linesF ps ls)]
def textF (ps : List Pe) (ls : List La) : List UInt8 := Lib.join (linesF ps ls ++ [endLF ps ls]) [10] ++ [10]

/-- What a text can tell of. -/
def PeT (p : Pe) : Prop := (0 ≤ p.p ∧ p.p ≤ 1000000) ∧ (0 ≤ p.d ∧ p.d ≤ 1000000) ∧ (p.f = 1 ∨ p.f = 2 ∨ p.f = 3)
def LaT (l : La) : Prop := (0 ≤ l.g ∧ l.g ≤ 1000000) ∧ (0 ≤ l.c ∧ l.c ≤ 1000000) ∧ (0 ≤ l.w ∧ l.w ≤ 4095)
theorem itoa7 {n : Int} (h : 0 ≤ n ∧ n ≤ 1000000) : (Lib.itoa n).length ≤ 7 := itoa_len h.1 7 (by have : ((10 ^ 7 : Nat) : Int) = 10000000 := by decide
                                                                                                  omega) (by omega)
theorem wordF_len (f : Int) : (wordF f).length ≤ 7 := by
  unfold wordF; split <;> (try split) <;> (try split) <;> simp
theorem line_len (ws : List (List UInt8)) (h : ∀ l ∈ ws, l.length ≤ 10) (hn : ws.length ≤ 20) : (lineL ws).length ≤ 300 := by
  have := join_len (sep := [32]) ws h
  unfold lineL
  simp at this
  omega
theorem head_len {n m : Nat} (hn : n ≤ 1000) (hm : m ≤ 1000) : (headL n m).length ≤ 300 := line_len _ (by
  have h1 := itoa7 (n := n) (by omega)
  have h2 := itoa7 (n := m) (by omega)
  simp [wSeason]; omega) (by simp)
theorem perL_len {p : Pe} (h : PeT p) : (perL p).length ≤ 300 := line_len _ (by
  have h1 := itoa7 h.1
  have h2 := itoa7 h.2.1
  have h3 := wordF_len p.f
  simp [wPerson]; omega) (by simp)
theorem mem_ints {s : Int} {x : Int} (h : x ∈ ints (membersL s)) : 0 ≤ x ∧ x ≤ 12 := by
  simp only [ints, List.mem_map] at h
  obtain ⟨k, hk, rfl⟩ := h
  simp only [membersL, memTo, List.mem_filter, List.mem_range] at hk
  omega
theorem landW_len {l : La} (_ : LaT l) : (landW l).length ≤ 15 := by
  have := memTo_len l.w 12
  simp [landW, ints, membersL]; omega
theorem landW_mem {l : La} (h : LaT l) : ∀ x ∈ landW l, x.length ≤ 10 := by
  have h1 := itoa7 h.1
  have h2 := itoa7 h.2.1
  intro x hx
  simp only [landW, List.mem_append, List.mem_cons, List.not_mem_nil, or_false, List.mem_map] at hx
  rcases hx with (rfl | rfl | rfl) | ⟨y, hy, rfl⟩
  · simp [wLanding]
  · omega
  · omega
  · have := mem_ints hy
    have := itoa7 (n := y) (by omega)
    omega
theorem landL_len {l : La} (h : LaT l) : (landL l).length ≤ 300 := line_len _ (landW_mem h) (by have := landW_len h; omega)
theorem linesF_len {ps : List Pe} {ls : List La} (hp : ∀ p ∈ ps, PeT p) (hl : ∀ l ∈ ls, LaT l) (h1 : ps.length ≤ 1000) (h2 : ls.length ≤ 1000) : ∀ x ∈ linesF ps ls, x.length ≤ 300 := by
  intro x hx
  simp only [linesF, List.mem_cons, List.mem_append, List.mem_map] at hx
  rcases hx with rfl | ⟨p, hp', rfl⟩ | ⟨l, hl', rfl⟩
  · exact head_len h1 h2
  · exact perL_len (hp p hp')
  · exact landL_len (hl l hl')
theorem chkT_len {ls : List (List UInt8)} (h : ∀ l ∈ ls, l.length ≤ 100000) (hn : ls.length ≤ 10000) : (chkT ls).length ≤ 10 := by
  have := sumT_bd h hn
  have := itoa7 (n := 1000 + sumT ls % 113) (by omega)
  simp [chkT]; omega
theorem endLF_len {ps : List Pe} {ls : List La} (hp : ∀ p ∈ ps, PeT p) (hl : ∀ l ∈ ls, LaT l) (h1 : ps.length ≤ 1000) (h2 : ls.length ≤ 1000) : (endLF ps ls).length ≤ 300 := line_len _ (by
  have := chkT_len (ls := linesF ps ls) (fun x hx => by have := linesF_len hp hl h1 h2 x hx; omega) (by simp [linesF]; omega)
  simp [wEnd]; omega) (by simp)

/-- A line laid in a slice of its own. -/
theorem strs_of {w : World} {q : Nat} {cs : Array Value} {n : Nat} (xs : List (List UInt8)) (h : Has w q 9 cs) (hl : xs.length = n) (hc : cs.toList = xs.map fun l => Value.string (bs l)) : SlOf strC 1 w (some ⟨q, 0, none⟩) n xs :=
  SlOf.of_cells strC_len h hl (by rw [hc, flat_strC])
theorem own_strs {w : World} {q base : Nat} {cs : Array Value} {n : Nat} (xs : List (List UInt8)) (h : Has w q 9 cs) (hb : base ≤ q) (hl : xs.length = n) (hn : n ≤ 1000) (hc : cs.toList = xs.map fun l => Value.string (bs l)) : Own eT base (.slice (some ⟨q, 0, none⟩) n n) xs w :=
  Own.of_has eT_ok h hb hl (by have := congrArg List.length hc; simp at this; rw [this, hl]; simp [eT]) (by rw [hc]; exact (flat_strC xs).symm) (by unfold maxLen; omega)
def NewS (b : Nat) (n : Nat) (xs : List (List UInt8)) : Value → World → Prop := fun v w => ∃ q, v = .slice (some ⟨q, 0, none⟩) n n ∧ b ≤ q ∧ Has w q 9 (xs.map fun l => Value.string (bs l)).toArray
theorem NewS.stable {b n : Nat} {xs : List (List UInt8)} (v : Value) (w w' : World) (h : NewS b n xs v w) (hb : Below w.heap.size w w') : NewS b n xs v w' := by
  obtain ⟨q, h1, h2, h3⟩ := h
  exact ⟨q, h1, h2, h3.after hb⟩
theorem NewS.sl {n : Nat} {xs : List (List UInt8)} {q : Nat} {w : World} (h : Has w q 9 (xs.map fun l => Value.string (bs l)).toArray) (hn : xs.length = n) : SlOf strC 1 w (some ⟨q, 0, none⟩) n xs := strs_of xs h hn (by simp)
theorem NewS.mk {b n : Nat} {xs : List (List UInt8)} {w' : World} (hb : b ≤ w'.heap.size) : NewS b n xs (.slice (some ⟨w'.heap.size, 0, none⟩) n n) (w'.alloc (.cells (xs.map fun l => Value.string (bs l)).toArray 9)) := ⟨_, rfl, hb, Has.new w' 9 _⟩
end Go.Proofs
namespace Go.Proofs
open Go.RowKit Go.Shelf
attribute [local go_sem ↓] Go.wp_at_zero Go.wp_at_succ

set_option maxHeartbeats 2000000 in
theorem textOf_c (s : Sv) (hp : ∀ p ∈ s.ps, PeT p) (hl : ∀ l ∈ s.ls, LaT l) (hpn : s.pn ≤ 1000) (hln : s.ln ≤ 1000) (w : World) (hi : s.In w) (hI : ItoaAll w) :
    Calls Tryz.prog 117 #[s.val] w fun e w' => e = .returned (.string (bs (textF s.ps s.ls))) ∧ Below w.heap.size w w' := by
  obtain ⟨pA, lA, pn, pc, ln, lc, ps, ls⟩ := s
  obtain ⟨hp', hl'⟩ := hi
  simp only [Sv.val] at *
  have HN := Lib.hid hp'.1; have HM := Lib.hid hl'.1
  have HPT := Lib.hid hp; have HLT := Lib.hid hl
  obtain ⟨w1, hw1⟩ : ∃ w1, w1 = w.alloc (.cells #[.slice pA pn pc, .slice lA ln lc] 25) := ⟨_, rfl⟩
  have B1 := Lib.hid (show Below w.heap.size w w1 from by rw [hw1]; exact newB (Below.refl _ _) _)
  have F1 := Lib.hid (show Has w1 w.heap.size 25 #[.slice pA pn pc, .slice lA ln lc] from by rw [hw1]; exact Has.new w 25 _)
  have HP := Lib.hid (hp'.keep B1.out); have HL := Lib.hid (hl'.keep B1.out); have HI := Lib.hid (hI.keep B1.out)
  have HW := Lib.hid hw1
  clear hp' hl' hp hl hI hw1
  go_enter Tryz.func117, Tryz.ntmps117
  go_wp2
  rw [← HW.out]
  clear HW
  apply wp_loose 11 [.v _, .v _, .v _, .v _, .v _, .v _, .v _, .v _, .r (NewS w1.heap.size 3 [wSeason, Lib.itoa pn, Lib.itoa ln]), .v _, .r (NewS w1.heap.size 1 [headL pn ln])] (by kernel_rfl) (by kernel_rfl) (by kernel_rfl) (by decide) rfl
  intro K hK
  apply OblS.val rfl
  · intro w' hb _; go_simp; rfl
  apply OblS.val rfl
  · intro w' hb _; have := (F1.out.after hb).cell; go_simp; rfl
  apply OblS.val rfl
  · intro w' hb _; go_simp; rfl
  apply OblS.call (v := .string (bs (Lib.itoa pn))) 161 rfl
  · intro w' hb _; apply Exists.intro; apply And.intro; (go_simp; rfl); exact HI.out pn (by omega) (by omega) w' hb
  apply OblS.val rfl
  · intro w' hb _; go_simp; rfl
  apply OblS.val rfl
  · intro w' hb _; have := (F1.out.after hb).cell; go_simp; rfl
  apply OblS.val rfl
  · intro w' hb _; go_simp; rfl
  apply OblS.call (v := .string (bs (Lib.itoa ln))) 161 rfl
  · intro w' hb _; apply Exists.intro; apply And.intro; (go_simp; rfl); exact HI.out ln (by omega) (by omega) w' hb
  refine OblS.run NewS.stable (by kernel_rfl) (fun w' hb _ => ⟨_, _, (by kernel_rfl), NewS.mk hb.size, newB (Below.refl _ _) _⟩) ?_
  intro v8
  apply OblS.call (v := .string (bs (headL pn ln))) 160 rfl
  · intro w' hb hH
    obtain ⟨q, rfl, _, hq⟩ := hH _ (List.mem_cons_self ..) (by kernel_rfl)
    apply Exists.intro; apply And.intro; (go_simp; rfl); exact line_c _ 3 3 _ (by omega) (by omega) (by have := head_len hpn hln; unfold headL at this; omega) (by omega) w' (NewS.sl hq rfl)
  refine OblS.run NewS.stable (by kernel_rfl) (fun w' hb _ => ⟨_, _, (by kernel_rfl), NewS.mk hb.size, newB (Below.refl _ _) _⟩) ?_
  intro v10
  apply OblS.nil
  apply hK
  intro w2 hb hH
  obtain ⟨q, rfl, hqb, hq⟩ := hH _ (List.mem_cons_self ..)
  have O2 := Lib.hid (own_strs (base := w1.heap.size) (n := 1) [headL pn ln] hq hqb rfl (by omega) rfl)
  have B2 := Lib.hid hb
  have c2 := (F1.out.after hb).cell
  clear hH hK K hq hb hqb
  simp only [Act.put, List.setIfInBounds_toArray, List.set_cons_zero, List.set_cons_succ, List.drop_succ_cons, List.drop_zero]
  go_wp2
  go_loopw [3, 25] (fun v i wr => ∃ k : Nat, k ≤ pn ∧ i = .int .i64 k ∧ Own eT w1.heap.size v (headL pn ln :: (ps.take k).map perL) wr ∧ Below w1.heap.size w1 wr) (fun _ i _ => pn - (intOf i).toNat)
  case atStart => exact ⟨0, by omega, rfl, by simpa using O2.out, B2.out⟩
  case round =>
    obtain ⟨k, hk, rfl, hO, hB⟩ := hrel
    have HB := Lib.hid hB; have HO := Lib.hid hO
    clear hO hB
    by_cases hkn : k < pn
    · have hkl : k < ps.length := by rw [HN.out]; exact hkn
      obtain ⟨b, o, he⟩ := HP.out.addr (by omega)
      have hx := List.getElem?_eq_getElem hkl
      have HT := Lib.hid (show (ps.take (k + 1)).map perL = (ps.take k).map perL ++ [perL ps[k]] by rw [← List.take_append_getElem hkl, List.map_append]; rfl)
      obtain ⟨x, hxx⟩ : ∃ x, x = ps[k] := ⟨_, rfl⟩
      rw [← hxx] at hx HT
      have HPX := Lib.hid (HPT.out x (List.mem_of_getElem? hx))
      subst he
      have hR := Lib.hid ((HP.out.keep HB.out).range Pe.cs_len hx)
      obtain ⟨p, d, f⟩ := x
      replace hR := Lib.hid (show wr.rangeAt b (o + k * 3) [.int .i64 p, .int .i64 d, .int .i64 f] from hR.out)
      obtain ⟨hp1, hd1, hf1⟩ := HPX.out
      simp only at hp1 hd1 hf1
      clear hx hxx
      go_wp2_with (refine wpList_load_mid rfl 49 _ rfl b (o + k * 3) rfl _ _ hR.out Tryz.underlying49 rfl (by kernel_rfl) ?_)
      obtain ⟨w3, hw3⟩ : ∃ w3, w3 = wr.alloc (.cells #[.int .i64 p, .int .i64 d, .int .i64 f] 49) := ⟨_, rfl⟩
      have B3 := Lib.hid (show Below wr.heap.size wr w3 from by rw [hw3]; exact newB (Below.refl _ _) _)
      have F3 := Lib.hid (show Has w3 wr.heap.size 49 #[.int .i64 p, .int .i64 d, .int .i64 f] from by rw [hw3]; exact Has.new wr 49 _)
      rw [← hw3]
      have B13 := Lib.hid (nextB HB.out B3.out)
      have O3 := Lib.hid (HO.out.keep B3.out)
      have I3 := Lib.hid (HI.out.keep B13.out)
      clear hw3
      apply wp_loose 13 [.v _, .v _, .v _, .v _, .v _, .v _, .v _, .v _, .v _, .v _, .r (NewS w1.heap.size 4 [wPerson, Lib.itoa p, Lib.itoa d, wordF f]), .v _, .r (NewS w1.heap.size 1 [perL ⟨p, d, f⟩])] (by kernel_rfl) (by kernel_rfl) (by kernel_rfl) (by decide) rfl
      intro K hK
      apply OblS.val rfl
      · intro w' hb _; go_simp; rfl
      apply OblS.val rfl
      · intro w' hb _; go_simp; rfl
      apply OblS.val rfl
      · intro w' hb _; have := (F3.out.after hb).cell; go_simp; rfl
      apply OblS.call (v := .string (bs (Lib.itoa p))) 161 rfl
      · intro w' hb _; apply Exists.intro; apply And.intro; (go_simp; rfl); exact I3.out p (by omega) (by omega) w' hb
      apply OblS.val rfl
      · intro w' hb _; go_simp; rfl
      apply OblS.val rfl
      · intro w' hb _; have := (F3.out.after hb).cell; go_simp; rfl
      apply OblS.call (v := .string (bs (Lib.itoa d))) 161 rfl
      · intro w' hb _; apply Exists.intro; apply And.intro; (go_simp; rfl); exact I3.out d (by omega) (by omega) w' hb
      apply OblS.val rfl
      · intro w' hb _; go_simp; rfl
      apply OblS.val rfl
      · intro w' hb _; have := (F3.out.after hb).cell; go_simp; rfl
      apply OblS.call (v := .string (bs (wordF f))) 162 rfl
      · intro w' hb _; apply Exists.intro; apply And.intro; (go_simp; rfl); exact wordOf_c f hf1 w'
      refine OblS.run NewS.stable (by kernel_rfl) (fun w' hb _ => ⟨_, _, (by kernel_rfl), NewS.mk (Nat.le_trans B13.out.size hb.size), newB (Below.refl _ _) _⟩) ?_
      intro v8
      apply OblS.call (v := .string (bs (perL ⟨p, d, f⟩))) 160 rfl
      · intro w' hb hH
        obtain ⟨q, rfl, _, hq⟩ := hH _ (List.mem_cons_self ..) (by kernel_rfl)
        apply Exists.intro; apply And.intro; (go_simp; rfl); exact line_c _ 4 4 _ (by omega) (by omega) (by have := perL_len HPX.out; unfold perL at this; omega) (by omega) w' (NewS.sl hq rfl)
      refine OblS.run NewS.stable (by kernel_rfl) (fun w' hb _ => ⟨_, _, (by kernel_rfl), NewS.mk (Nat.le_trans B13.out.size hb.size), newB (Below.refl _ _) _⟩) ?_
      intro v10
      apply OblS.nil
      apply hK
      intro w4 hb hH
      obtain ⟨q, rfl, hqb, hq⟩ := hH _ (List.mem_cons_self ..)
      have HQ := Lib.hid hq
      have B4 := Lib.hid (nextB B13.out hb)
      have O4 := Lib.hid (O3.out.keep hb)
      have HLn := Lib.hid (show (headL pn ln :: (ps.take k).map perL).length ≤ 20000000 by simp; omega)
      clear hH hK K hq hb hqb
      simp only [Act.put, List.setIfInBounds_toArray, List.set_cons_zero, List.set_cons_succ, List.drop_succ_cons, List.drop_zero]
      go_wp2_with (at_builtin; refine El.app1 eT_ok rfl _ _ rfl w1.heap.size u3 _ rfl O4.out HLn.out q (perL ⟨p, d, f⟩) rfl HQ.out B4.out.size ?_; intro v5 w5 ho5 hb5 _; have O5 := Lib.hid ho5; have B5 := Lib.hid (B4.out.trans hb5); clear ho5 hb5)
      go_roundw
      case rel => exact ⟨k + 1, by omega, by go_num, by rw [HT.out]; exact O5.out, B5.out⟩
      case measure => simp [intOf]; omega
    · have hke : k = pn := by omega
      subst hke
      have OA := Lib.hid (show Own eT w1.heap.size u3 (headL k ln :: ps.map perL) wr by have h := HO.out; rwa [List.take_of_length_le (by rw [HN.out]; exact Nat.le_refl _)] at h)
      have cA := (F1.out.after HB.out).cell
      have BA := HB
      clear HO HB O2 B2 c2
      generalize wr = wa at *
      go_wp2
      go_loopw [3, 47] (fun v i wr => ∃ j : Nat, j ≤ ln ∧ i = .int .i64 j ∧ Own eT w1.heap.size v (headL k ln :: (ps.map perL ++ (ls.take j).map landL)) wr ∧ Below w1.heap.size w1 wr) (fun _ i _ => ln - (intOf i).toNat)
      case atStart => exact ⟨0, by omega, rfl, by simpa using OA.out, BA.out⟩
      case round =>
        obtain ⟨j, hj, rfl, hO, hB⟩ := hrel
        have HB := Lib.hid hB; have HO := Lib.hid hO
        clear hO hB OA cA BA
        by_cases hjn : j < ln
        · have hjl : j < ls.length := by rw [HM.out]; exact hjn
          obtain ⟨b, o, he⟩ := HL.out.addr (by omega)
          have hx := List.getElem?_eq_getElem hjl
          have HT := Lib.hid (show (ls.take (j + 1)).map landL = (ls.take j).map landL ++ [landL ls[j]] by rw [← List.take_append_getElem hjl, List.map_append]; rfl)
          obtain ⟨x, hxx⟩ : ∃ x, x = ls[j] := ⟨_, rfl⟩
          rw [← hxx] at hx HT
          have HLX := Lib.hid (HLT.out x (List.mem_of_getElem? hx))
          subst he
          have hR := Lib.hid ((HL.out.keep HB.out).range La.cs_len hx)
          obtain ⟨g, c, m⟩ := x
          replace hR := Lib.hid (show wr.rangeAt b (o + j * 3) [.int .i64 g, .int .i64 c, .int .i64 m] from hR.out)
          obtain ⟨hg1, hc1, hm1⟩ := HLX.out
          simp only at hg1 hc1 hm1
          clear hx hxx
          go_wp2_with (refine wpList_load_mid rfl 44 _ rfl b (o + j * 3) rfl _ _ hR.out Tryz.underlying44 rfl (by kernel_rfl) ?_)
          obtain ⟨w3, hw3⟩ : ∃ w3, w3 = wr.alloc (.cells #[.int .i64 g, .int .i64 c, .int .i64 m] 44) := ⟨_, rfl⟩
          have B3 := Lib.hid (show Below wr.heap.size wr w3 from by rw [hw3]; exact newB (Below.refl _ _) _)
          have F3 := Lib.hid (show Has w3 wr.heap.size 44 #[.int .i64 g, .int .i64 c, .int .i64 m] from by rw [hw3]; exact Has.new wr 44 _)
          rw [← hw3]
          have B13 := Lib.hid (nextB HB.out B3.out)
          have O3 := Lib.hid (HO.out.keep B3.out)
          have I3 := Lib.hid (HI.out.keep B13.out)
          clear hw3
          apply wp_loose 7 [.v _, .v _, .v _, .v _, .v _, .v _, .r (NewS w3.heap.size 3 [wLanding, Lib.itoa g, Lib.itoa c])] (by kernel_rfl) (by kernel_rfl) (by kernel_rfl) (by decide) rfl
          intro K hK
          apply OblS.val rfl
          · intro w' hb _; go_simp; rfl
          apply OblS.val rfl
          · intro w' hb _; have := (F3.out.after hb).cell; go_simp; rfl
          apply OblS.call (v := .string (bs (Lib.itoa g))) 161 rfl
          · intro w' hb _; apply Exists.intro; apply And.intro; (go_simp; rfl); exact I3.out g (by omega) (by omega) w' hb
          apply OblS.val rfl
          · intro w' hb _; go_simp; rfl
          apply OblS.val rfl
          · intro w' hb _; have := (F3.out.after hb).cell; go_simp; rfl
          apply OblS.call (v := .string (bs (Lib.itoa c))) 161 rfl
          · intro w' hb _; apply Exists.intro; apply And.intro; (go_simp; rfl); exact I3.out c (by omega) (by omega) w' hb
          refine OblS.run NewS.stable (by kernel_rfl) (fun w' hb _ => ⟨_, _, (by kernel_rfl), NewS.mk hb.size, newB (Below.refl _ _) _⟩) ?_
          intro v8
          apply OblS.nil
          apply hK
          intro w4 hb hH
          obtain ⟨q, rfl, hqb, hq⟩ := hH _ (List.mem_cons_self ..)
          have L4 := Lib.hid (own_strs (base := w3.heap.size) (n := 3) [wLanding, Lib.itoa g, Lib.itoa c] hq hqb rfl (by omega) rfl)
          have B4 := Lib.hid hb
          have c4 := (F3.out.after hb).cell
          have HMm := Lib.hid (members_c m (by omega) (by omega) w4)
          clear hH hK K hq hb hqb
          simp only [Act.put, List.setIfInBounds_toArray, List.set_cons_zero, List.set_cons_succ, List.drop_succ_cons, List.drop_zero]
          go_wp2_with (go_at_call 139; refine HMm.out.mono ?_; rintro e w5 ⟨v, rfl, ho, hb⟩; obtain ⟨mA, mc, rfl, hms, hz⟩ := ho.sl; have HMS := Lib.hid (ho.lower (Nat.zero_le _)); have B5 := Lib.hid (nextB B4.out hb); have L5 := Lib.hid (L4.out.keep hb); clear ho hms hb hz)
          obtain ⟨ms, hms⟩ : ∃ ms, ms = ints (membersL m) := ⟨_, rfl⟩
          rw [← hms] at HMS
          simp only [← hms]
          have HLd := Lib.hid (show landL ⟨g, c, m⟩ = lineL ([wLanding, Lib.itoa g, Lib.itoa c] ++ ms.map Lib.itoa) by rw [hms]; rfl)
          have HMb := Lib.hid (show ∀ y ∈ ms, 0 ≤ y ∧ y ≤ 12 from fun y hy => mem_ints (by rw [hms] at hy; exact hy))
          have HMl := Lib.hid (show ms.length ≤ 12 by rw [hms]; simpa [ints, membersL] using memTo_len m 12)
          have HLl := Lib.hid (show (lineL ([wLanding, Lib.itoa g, Lib.itoa c] ++ ms.map Lib.itoa)).length ≤ 100000000 by have := landL_len HLX.out; rw [HLd.out] at this; omega)
          obtain ⟨mn, hmn⟩ : ∃ mn, mn = ms.length := ⟨_, rfl⟩
          rw [← hmn] at HMS HMl
          simp only [← hmn]
          have HMn := Lib.hid hmn
          clear hms hmn c4 B4 L4 HO HMm
          go_loopw [8, 62] (fun v i wt => ∃ t : Nat, t ≤ mn ∧ i = .int .i64 t ∧ Own eT w3.heap.size v ([wLanding, Lib.itoa g, Lib.itoa c] ++ (ms.take t).map Lib.itoa) wt ∧ Own eI 0 (.slice mA mn mc) ms wt ∧ Below w3.heap.size w3 wt) (fun _ i _ => mn - (intOf i).toNat)
          case atStart => exact ⟨0, by omega, rfl, by simpa using L5.out, HMS.out, B5.out⟩
          case round =>
            obtain ⟨t, ht, rfl, hO, hMo, hB⟩ := hrel
            have HOt := Lib.hid hO; have HMt := Lib.hid hMo; have B3t := Lib.hid hB
            have It := Lib.hid (I3.out.keep hB)
            clear hO hMo hB L5 HMS B5
            by_cases htn : t < mn
            · have htl : t < ms.length := by rw [← HMn.out]; exact htn
              have hx := List.getElem?_eq_getElem htl
              have HT2 := Lib.hid (show (ms.take (t + 1)).map Lib.itoa = (ms.take t).map Lib.itoa ++ [Lib.itoa ms[t]] by rw [← List.take_append_getElem htl, List.map_append]; rfl)
              obtain ⟨y, hyy⟩ : ∃ y, y = ms[t] := ⟨_, rfl⟩
              rw [← hyy] at hx HT2
              have hy := HMb.out y (List.mem_of_getElem? hx)
              have HSt := Lib.hid (Own.toSl HMt.out HMn.out)
              obtain ⟨b2, o2, he2⟩ := HSt.out.addr (by omega)
              subst he2
              have hcell : wr.cell? ⟨b2, o2 + t, none⟩ = some (.int .i64 y) := by have := HSt.out.range inC_len hx 0 _ rfl; simpa using this
              have HLn := Lib.hid (show ([wLanding, Lib.itoa g, Lib.itoa c] ++ (ms.take t).map Lib.itoa).length ≤ 20000000 by have := HMl.out; simp; omega)
              have hml := HMl.out
              clear hx hyy HSt
              go_wp2_with (first
                | (go_at_call 161; refine (It.out y (by omega) (by omega) _ (Below.refl _ _)).mono ?_; rintro e w6 ⟨rfl, hb⟩; have B6 := Lib.hid (nextB B3t.out hb); have O6 := Lib.hid (HOt.out.keep hb); have M6 := Lib.hid (HMt.out.keep hb); clear hb)
                | (at_builtin; refine El.app1 eT_ok rfl _ _ rfl w3.heap.size u8 _ rfl (O6.out.alloc (.cells #[.string (bs (Lib.itoa y))] 9)) HLn.out w6.heap.size (Lib.itoa y) rfl (Has.new w6 9 _) (newB B6.out _).size ?_; intro v7 w7 ho7 hb7 hsp; have O7 := Lib.hid ho7; have M7 := Lib.hid ((M6.out.alloc (.cells #[.string (bs (Lib.itoa y))] 9)).spared hsp (by decide)); have B7 := Lib.hid ((newB B6.out (.cells #[.string (bs (Lib.itoa y))] 9)).trans hb7); clear ho7 hb7 hsp))
              go_roundw
              case rel => exact ⟨t + 1, Nat.succ_le_of_lt htn, by go_num, by rw [HT2.out, ← List.append_assoc]; exact O7.out, M7.out, B7.out⟩
              case measure => simp [intOf]; omega
            · have hte : t = mn := by omega
              subst hte
              have HE := Lib.hid (show ms.take t = ms from List.take_of_length_le (by rw [HMn.out]; exact Nat.le_refl _))
              have hO2 := HOt.out
              rw [HE.out] at hO2
              obtain ⟨A8, c8, rfl, hsl, _⟩ := Own.sl hO2
              have hlen : ([wLanding, Lib.itoa g, Lib.itoa c] ++ ms.map Lib.itoa).length = t + 3 := by simp [HMn.out]
              have hcap : t + 3 ≤ c8 := by have := Own.cap hO2; omega
              rw [hlen] at hsl ⊢
              have HS8 := Lib.hid hsl
              have O9 := Lib.hid (O3.out.keep B3t.out)
              have B9 := Lib.hid (nextB B13.out B3t.out)
              have hml := HMl.out
              have HJ := Lib.hid (line_c A8 (t + 3) c8 _ (by omega) hcap HLl.out (by omega) wr HS8.out)
              rw [← HLd.out] at HJ
              have HLn := Lib.hid (show (headL k ln :: (ps.map perL ++ (ls.take j).map landL)).length ≤ 20000000 by have := HN.out; simp; omega)
              clear hO2 hsl hlen HS8 HOt HMt
              go_wp2_with (first
                | (go_at_call 160; refine HJ.out.mono ?_; rintro e w6 ⟨rfl, hb⟩; have B10 := Lib.hid (nextB B9.out hb); have O10 := Lib.hid (O9.out.keep hb); clear hb)
                | (at_builtin; refine El.app1 eT_ok rfl _ _ rfl w1.heap.size u3 _ rfl (O10.out.alloc (.cells #[.string (bs (landL ⟨g, c, m⟩))] 9)) HLn.out w6.heap.size (landL ⟨g, c, m⟩) rfl (Has.new w6 9 _) (newB B10.out _).size ?_; intro v7 w7 ho7 hb7 _; have O7 := Lib.hid ho7; have B7 := Lib.hid ((newB B10.out (.cells #[.string (bs (landL ⟨g, c, m⟩))] 9)).trans hb7); clear ho7 hb7))
              go_roundw
              case rel => exact ⟨j + 1, by omega, by go_num, by rw [HT.out, ← List.append_assoc]; exact O7.out, B7.out⟩
              case measure => simp [intOf]; omega
        · have hje : j = ln := by omega
          subst hje
          have HLF := Lib.hid (show linesF ps ls = headL k j :: (ps.map perL ++ ls.map landL) by unfold linesF; rw [HN.out, HM.out])
          have hO2 := HO.out
          rw [List.take_of_length_le (by rw [HM.out]; exact Nat.le_refl _), ← HLF.out] at hO2
          have hb1 := linesF_len HPT.out HLT.out (by rw [HN.out]; exact hpn) (by rw [HM.out]; exact hln)
          have hb2 := endLF_len HPT.out HLT.out (by rw [HN.out]; exact hpn) (by rw [HM.out]; exact hln)
          have HLL := Lib.hid (show (linesF ps ls).length = k + j + 1 by unfold linesF; have := HN.out; have := HM.out; simp; omega)
          have HTF := Lib.hid (show textF ps ls = Lib.join (linesF ps ls ++ [endLF ps ls]) [10] ++ [10] from rfl)
          have HEF := Lib.hid (show endLF ps ls = lineL [wEnd, chkT (linesF ps ls)] from rfl)
          generalize linesF ps ls = LF at *
          generalize endLF ps ls = EF at *
          have HJL := Lib.hid (show (Lib.join (LF ++ [EF]) [10]).length ≤ 10000000 by
            have h := join_len (sep := [10]) (B := 300) (LF ++ [EF]) (fun l hl => by
              rcases List.mem_append.1 hl with h | h
              · exact hb1 l h
              · simp at h; subst h; exact hb2)
            have hh := HLL.out
            simp at h; rw [hh] at h; omega)
          have HB1 := Lib.hid hb1; have HB2 := Lib.hid hb2; have HO2 := Lib.hid hO2
          obtain ⟨A8, c8, rfl, hsl, _⟩ := Own.sl hO2
          have hll := HLL.out
          rw [hll] at hsl ⊢
          have HIw := Lib.hid (HI.out.keep HB.out)
          have HCk := Lib.hid (chk_c A8 (k + j + 1) c8 LF (by omega) wr hsl (fun l hl => by have := hb1 l hl; omega) HIw.out)
          have HL1 := Lib.hid (show LF.length ≤ 20000000 by omega)
          rw [hll] at HO2
          clear hO2 hb1 hb2 hsl hll HO
          have hz1 : (bs (Lib.join (LF ++ [EF]) [10])).size ≤ 10000000 := by rw [bs_size]; exact HJL.out
          go_wp2_with (first
            | (go_at_call 163; refine HCk.out.mono ?_; rintro e w2 ⟨rfl, hb⟩; have B2 := Lib.hid (nextB HB.out hb); have O2 := Lib.hid (HO2.out.keep hb); have J2 := Lib.hid (line_c (some ⟨w2.heap.size, 0, none⟩) 2 2 [wEnd, chkT LF] (by omega) (by omega) (by rw [← HEF.out]; have := HB2.out; omega) (by omega) (w2.alloc (.cells #[.string (bs wEnd), .string (bs (chkT LF))] 9)) (strs_of _ (Has.new w2 9 _) rfl rfl)); rw [← HEF.out] at J2; clear hb)
            | (go_at_call 160; refine J2.out.mono ?_; rintro e w6 ⟨rfl, hb⟩; have B10 := Lib.hid (nextB (newB B2.out _) hb); have O10 := Lib.hid ((O2.out.alloc _).keep hb); clear hb)
            | (at_builtin; refine El.app1 eT_ok rfl _ _ rfl w1.heap.size (.slice A8 (k + j + 1) c8) _ rfl (O10.out.alloc (.cells #[.string (bs EF)] 9)) HL1.out w6.heap.size EF rfl (Has.new w6 9 _) (newB B10.out _).size ?_; intro v7 w7 ho7 hb7 _; have O7 := Lib.hid ho7; have B7 := Lib.hid ((newB B10.out (.cells #[.string (bs EF)] 9)).trans hb7); obtain ⟨A9, c9, rfl, hsl9, _⟩ := Own.sl ho7; have hcap9 := Own.cap ho7 rfl; have hl9 : (LF ++ [EF]).length = k + j + 2 := (by have := HLL.out; simp; omega); rw [hl9] at hsl9 hcap9 ⊢; have J7 := Lib.hid (join_c A9 (k + j + 2) c9 (LF ++ [EF]) [10] (by omega) hcap9 (by have := HJL.out; omega) (by omega) w7 hsl9); clear ho7 hb7 hsl9 hcap9 hl9 O7)
            | (go_at_call 164; refine J7.out.mono ?_; rintro e w8 ⟨rfl, hb⟩; have B8 := Lib.hid (nextB B7.out hb); clear hb))
          exact bodyPost_ret (results_tmp rfl _ _ _) rfl ⟨by rw [HTF.out, ← bs_app]; rfl, nextB B1.out B8.out⟩
end Go.Proofs
namespace Go.Proofs
open Go.RowKit Go.Shelf
attribute [local go_sem ↓] Go.wp_at_zero Go.wp_at_succ

theorem Seas.peT {ps : List Pe} {ls : List La} (h : Seas ps ls) : ∀ p ∈ ps, PeT p := fun p hp => by
  have := h.pe p hp
  exact ⟨by omega, by omega, by omega⟩
theorem Seas.laT {ps : List Pe} {ls : List La} (h : Seas ps ls) : ∀ l ∈ ls, LaT l := fun l hl => by
  have h1 := h.la l hl
  have h2 := h.six
  have h3 : (2 : Int) ^ ps.length ≤ 2 ^ 6 := by exact_mod_cast Nat.pow_le_pow_right (by omega) h2
  have h4 : (2 : Int) ^ 6 = 64 := by decide
  exact ⟨by omega, by omega, by omega⟩
/-- What printing answers. -/
def prnF (ps : List Pe) (ls : List La) : List UInt8 := if seasonB ps ls then textF ps ls else []
theorem Print_c (s : Sv) (hpn : s.pn ≤ 1000000) (hln : s.ln ≤ 1000000) (w : World) (hi : s.In w) (hI : ItoaAll w) :
    Calls Tryz.prog 70 #[s.val] w fun e w' => e = .returned (.tuple #[.string (bs (prnF s.ps s.ls)), .int .i64 (errI (seasonB s.ps s.ls))]) ∧ Below w.heap.size w w' := by
  have HC := Lib.hid fun (w' : World) (hb : Below w.heap.size w w') => check_c s hpn hln w' (hi.keep hb)
  have HT := Lib.hid fun (hs : seasonB s.ps s.ls = true) (w' : World) (hb : Below w.heap.size w w') => (by
    have h := (seas_iff _ _).1 hs
    have h1 := h.six; have h2 := h.few
    exact textOf_c s h.peT h.laT (by rw [← hi.ps.1]; omega) (by rw [← hi.ls.1]; omega) w' (hi.keep hb) (hI.keep hb) : Calls Tryz.prog 117 #[s.val] w' fun e w2 => e = .returned (.string (bs (textF s.ps s.ls))) ∧ Below w'.heap.size w' w2)
  have HP := Lib.hid (show prnF s.ps s.ls = if seasonB s.ps s.ls then textF s.ps s.ls else [] from rfl)
  obtain ⟨pA, lA, pn, pc, ln, lc, ps, ls⟩ := s
  simp only [Sv.val] at *
  have F0 := Lib.hid (Has.new w 25 #[.slice pA pn pc, .slice lA ln lc])
  have B0 := Lib.hid (newB (Below.refl w.heap.size w) (.cells #[.slice pA pn pc, .slice lA ln lc] 25))
  clear hi hI
  cases h1 : seasonB ps ls
  · rw [h1] at HC HP
    clear HT h1
    go_enter Tryz.func70, Tryz.ntmps70
    go_wp2_with (go_at_call 25; refine (HC.out _ B0.out).mono ?_; rintro e w1 ⟨rfl, hb1⟩; rw [show errI false = 2 from rfl]; have HB1 := Lib.hid (nextB B0.out hb1); clear hb1)
    exact bodyPost_ret (results_tmp2 rfl _ _ _) rfl ⟨by rw [HP.out]; rfl, HB1.out⟩
  · replace HT := Lib.hid (HT.out h1)
    rw [h1] at HC HP
    clear h1
    go_enter Tryz.func70, Tryz.ntmps70
    go_wp2_with (first
      | (go_at_call 25; refine (HC.out _ B0.out).mono ?_; rintro e w1 ⟨rfl, hb1⟩; rw [show errI true = 0 from rfl]; have HB1 := Lib.hid (nextB B0.out hb1); have HF1 := Lib.hid (F0.out.after hb1); clear hb1)
      | (refine wpList_load_row rfl 25 _ rfl w.heap.size rfl 25 _ (0, 0) _ HF1.out Tryz.underlying25 rfl (by kernel_rfl) ?_)
      | (go_at_call 117; refine (HT.out _ HB1.out).mono ?_; rintro e w2 ⟨rfl, hb2⟩; have HB2 := Lib.hid (nextB HB1.out hb2); clear hb2))
    exact bodyPost_ret (results_tmp2 rfl _ _ _) rfl ⟨by rw [HP.out]; rfl, HB2.out⟩
end Go.Proofs
namespace Go.Proofs
open Go.RowKit Go.Shelf
attribute [local go_sem ↓] Go.wp_at_zero Go.wp_at_succ

theorem decode_wide (s : ByteArray) (pos : Nat) (h : pos < s.size) (ha : 128 ≤ (s[pos]'h).toNat) : 128 ≤ (Utf8.decode s pos).1 := by
  have e : s.get! (pos + 0) = s[pos]'h := by
    show s.get! pos = _
    simp [ByteArray.get!, getElem!_pos, h]
    rfl
  have hn : ¬ (s[pos]'h).toNat < 0x80 := by omega
  simp only [Utf8.decode, e, hn, if_false, Utf8.runeError]
  repeat' split
  all_goals (try simp_all)
  all_goals omega
theorem run_next_wide {P : Program} (w : World) (s : ByteArray) (pos : Nat) (ty : TypeId) (h : pos < s.size) :
    (Instr.next (.pointer (some ⟨w.heap.size, 0, none⟩)) true ty).run P (w.iter s pos) =
      .ok (.tuple #[.bool true, .int .i64 pos, .int .i32 ((Utf8.decode s pos).1 : Nat)]) (w.iter s (pos + (Utf8.decode s pos).2)) := by
  simp only [Instr.next, getObj, setObj, Sem.run_bind, Sem.run, World.iter_heap, Result.andThen, h, if_true, World.iter_set]
  simp [goInt]

def digB (b : UInt8) : Bool := decide (48 ≤ b.toNat ∧ b.toNat ≤ 57)
def numV (l : List UInt8) : Int := l.foldl (fun n b => 10 * n + ((b.toNat : Int) - 48)) 0
theorem numV_snoc (l : List UInt8) (b : UInt8) : numV (l ++ [b]) = 10 * numV l + ((b.toNat : Int) - 48) := by simp [numV]
def wordB (l : List UInt8) : Bool := inB l.length 1 6 && l.all digB
/-- What gives up with noSeason. -/
def noSeason : List PanicEntry := [{ v := .iface 177 (.agg #[]), recovered := false }]
theorem numA_bd : ∀ (l : List UInt8) (a : Int) (k : Nat), l.all digB = true → 0 ≤ a → a < 10 ^ k → 0 ≤ l.foldl (fun n b => 10 * n + ((b.toNat : Int) - 48)) a ∧ l.foldl (fun n b => 10 * n + ((b.toNat : Int) - 48)) a < 10 ^ (k + l.length)
  | [], a, k, _, h0, h1 => ⟨h0, by simpa using h1⟩
  | b :: r, a, k, hd, h0, h1 => by
    simp only [List.all_cons, Bool.and_eq_true, digB, decide_eq_true_eq] at hd
    have h2 : (10 : Int) ^ (k + 1) = 10 * 10 ^ k := by rw [Int.pow_succ]; omega
    have := numA_bd r (10 * a + ((b.toNat : Int) - 48)) (k + 1) hd.2 (by omega) (by rw [h2]; omega)
    rw [List.length_cons, show k + (r.length + 1) = k + 1 + r.length by omega]
    exact this
theorem numV_bd' {l : List UInt8} (h : l.all digB = true) (hn : l.length ≤ 6) : 0 ≤ numV l ∧ numV l < 1000000 := by
  have := numA_bd l 0 0 h (Int.le_refl _) (by decide)
  refine ⟨this.1, Int.lt_of_lt_of_le this.2 ?_⟩
  have h4 : (10 : Int) ^ (0 + l.length) ≤ 10 ^ 6 := by exact_mod_cast Nat.pow_le_pow_right (by omega) (by omega)
  exact h4
theorem numV_bd {l : List UInt8} (h : wordB l = true) : 0 ≤ numV l ∧ numV l < 1000000 := by
  simp only [wordB, Bool.and_eq_true, inB, decide_eq_true_eq] at h
  exact numV_bd' h.2 (by omega)
/-- How far an iterator has come. -/
def iterPos (w : World) (g : Nat) : Nat := match w.heap[g]? with | some (.stringIter _ p) => p | _ => 0
theorem iterPos_iter (w : World) (s : ByteArray) (p : Nat) : iterPos (w.iter s p) w.heap.size = p := by
  unfold iterPos
  rw [World.iter_heap]

set_option maxHeartbeats 2000000 in
/-- A number of a season's word. -/
theorem number_c (l : List UInt8) (hl : wordB l = true) (w : World) : Calls Tryz.prog 181 #[.string (bs l)] w fun e w' => e = .returned (.int .i64 (numV l)) ∧ Below w.heap.size w w' := by
  have h2 := hl
  simp only [wordB, Bool.and_eq_true] at h2
  have hll := h2.1
  simp only [inB, decide_eq_true_eq] at hll
  have HWl := Lib.hid fun (W : World) => within_c (l.length : Int) 1 6 W
  rw [h2.1] at HWl
  have hlen : ((bs l).size : Int) = l.length := by rw [bs_size]
  have HD := Lib.hid h2.2
  have HW9 := Lib.hid fun (b : Int) (hb : 48 ≤ b ∧ b ≤ 57) (W : World) => (by have := within_c b 48 57 W; rwa [show inB b 48 57 = true by simp [inB, hb]] at this : Calls Tryz.prog 102 #[.int .i64 b, .int .i64 48, .int .i64 57] W fun e w' => e = .returned (.bool true) ∧ W = w')
  clear hl h2
  go_enter Tryz.func181, Tryz.ntmps181
  go_wp2_with (go_at_call 102; refine (HWl.out _).mono ?_; rintro e w1 ⟨rfl, rfl⟩)
  go_loopw [3] (fun v wr => ∃ k : Nat, k ≤ l.length ∧ v = .int .i64 (numV (l.take k)) ∧ wr = w.iter (bs l) k) (fun _ wr => (bs l).size - iterPos wr w.heap.size)
  case atStart => exact ⟨0, by omega, rfl, rfl⟩
  case round =>
    obtain ⟨k, hk, rfl, rfl⟩ := hrel
    by_cases hkn : k < l.length
    · have hki : k < (bs l).size := by rw [bs_size]; exact hkn
      have hb := List.all_eq_true.1 HD.out _ (List.getElem_mem hkn)
      have HT := Lib.hid (List.take_append_getElem hkn)
      have hg := bs_get l k hki
      have hbd := numV_bd' (l := l.take k) (List.all_eq_true.2 fun x hx => List.all_eq_true.1 HD.out x (List.mem_of_mem_take hx)) (by simp; omega)
      simp only [digB, decide_eq_true_eq] at hb
      have hnx : ∀ ty, (Instr.next (.pointer (some ⟨w.heap.size, 0, none⟩)) true ty).run Tryz.prog (w.iter (bs l) k) = .ok (.tuple #[.bool true, .int .i64 k, .int .i32 ((l[k]'hkn).toNat : Nat)]) (w.iter (bs l) (k + 1)) := fun ty => by
        rw [← hg]
        exact run_next_ascii (P := Tryz.prog) w (bs l) k ty hki (by rw [hg]; omega)
      clear hg
      generalize l[k]'hkn = b at *
      have HN := Lib.hid (show numV (l.take (k + 1)) = 10 * numV (l.take k) + ((b.toNat : Int) - 48) by rw [← HT.out, numV_snoc])
      generalize numV (l.take k) = v at *
      have v0 : IntKind.i64.wrap (b.toNat : Int) = (b.toNat : Int) := wI (by omega) (by omega)
      have v1 : IntKind.i32.wrap ((b.toNat : Int) - 48) = (b.toNat : Int) - 48 := by rw [IntKind.wrap_i32]; omega
      have v2 : IntKind.i64.wrap ((b.toNat : Int) - 48) = (b.toNat : Int) - 48 := wI (by omega) (by omega)
      have v3 : IntKind.i64.wrap (10 * v) = 10 * v := wI (by omega) (by omega)
      have v4 : IntKind.i64.wrap (10 * v + ((b.toNat : Int) - 48)) = 10 * v + ((b.toNat : Int) - 48) := wI (by omega) (by omega)
      have HWb := Lib.hid fun (W : World) => HW9.out (b.toNat : Int) (by omega) W
      go_wp2_with (go_at_call 102; refine (HWb.out _).mono ?_; rintro e w1 ⟨rfl, rfl⟩)
      go_roundw
      case rel => exact ⟨k + 1, by omega, by rw [HN.out], rfl⟩
      case measure => rw [iterPos_iter, iterPos_iter, bs_size]; omega
    · have hke : k = l.length := by omega
      subst hke
      have hnx := fun ty => run_next_end (P := Tryz.prog) w (bs l) l.length ty (by rw [bs_size]; omega)
      rw [List.take_of_length_le (Nat.le_refl _)]
      go_wp2
      exact bodyPost_ret (results_tmp rfl _ _ _) rfl ⟨rfl, newB (Below.refl _ _) _⟩
end Go.Proofs
namespace Go.Proofs
open Go.RowKit Go.Shelf
attribute [local go_sem ↓] Go.wp_at_zero Go.wp_at_succ

theorem decode_small (s : ByteArray) (pos : Nat) : (Utf8.decode s pos).1 ≤ 2100000 := by
  have h0 := (s.get! (pos + 0)).toNat_lt
  simp only [Utf8.decode, Utf8.runeError]
  repeat' split
  all_goals (dsimp only; omega)
theorem first_bad : ∀ (l : List UInt8), l.all digB = false → ∃ k, ∃ h : k < l.length, digB l[k] = false ∧ (l.take k).all digB = true
  | [], h => by simp at h
  | b :: r, h => by
    cases hb : digB b
    · exact ⟨0, by simp, hb, rfl⟩
    · simp only [List.all_cons, hb, Bool.true_and] at h
      obtain ⟨k, hk, h1, h2⟩ := first_bad r h
      exact ⟨k + 1, by simpa using hk, by simpa using h1, by simp [hb, h2]⟩
set_option maxHeartbeats 2000000 in
/-- A word that is no number of a season. -/
theorem number_p (l : List UInt8) (hl : wordB l = false) (hs : l.length ≤ 1000000) (w : World) : Calls Tryz.prog 181 #[.string (bs l)] w fun e w' => e = .panicked noSeason ∧ Below w.heap.size w w' := by
  have HWl := Lib.hid fun (W : World) => within_c (l.length : Int) 1 6 W
  have hlen : ((bs l).size : Int) = l.length := by rw [bs_size]
  cases h6 : inB (l.length : Int) 1 6
  · rw [h6] at HWl
    clear hl
    go_enter Tryz.func181, Tryz.ntmps181
    go_wp2_with (go_at_call 102; refine (HWl.out _).mono ?_; rintro e w1 ⟨rfl, rfl⟩)
    exact ⟨rfl, rfl, Below.refl _ _⟩
  · rw [h6] at HWl
    have hbad : l.all digB = false := by simpa [wordB, h6] using hl
    obtain ⟨j, hj, hd, ha⟩ := first_bad l hbad
    have h6' := h6
    simp only [inB, decide_eq_true_eq] at h6'
    have HA := Lib.hid ha; have HD := Lib.hid hd
    have HW9 := Lib.hid fun (b : Int) (hb : 48 ≤ b ∧ b ≤ 57) (W : World) => (by have := within_c b 48 57 W; rwa [show inB b 48 57 = true by simp [inB, hb]] at this : Calls Tryz.prog 102 #[.int .i64 b, .int .i64 48, .int .i64 57] W fun e w' => e = .returned (.bool true) ∧ W = w')
    have HX9 := Lib.hid fun (b : Int) (hb : b < 48 ∨ 57 < b) (W : World) => (by have := within_c b 48 57 W; rwa [show inB b 48 57 = false by simp [inB]; omega] at this : Calls Tryz.prog 102 #[.int .i64 b, .int .i64 48, .int .i64 57] W fun e w' => e = .returned (.bool false) ∧ W = w')
    clear hl hbad ha hd h6
    go_enter Tryz.func181, Tryz.ntmps181
    go_wp2_with (go_at_call 102; refine (HWl.out _).mono ?_; rintro e w1 ⟨rfl, rfl⟩)
    go_loopw [3] (fun v wr => ∃ k : Nat, k ≤ j ∧ v = .int .i64 (numV (l.take k)) ∧ wr = w.iter (bs l) k) (fun _ wr => (bs l).size - iterPos wr w.heap.size)
    case atStart => exact ⟨0, by omega, rfl, rfl⟩
    case round =>
      obtain ⟨k, hk, rfl, rfl⟩ := hrel
      have hkn : k < l.length := by omega
      have hki : k < (bs l).size := by rw [bs_size]; exact hkn
      have hg := bs_get l k hki
      by_cases hkj : k < j
      · have hb : digB (l[k]'hkn) = true := by
          have := List.all_eq_true.1 HA.out ((l.take j)[k]'(by simp; omega)) (List.getElem_mem _)
          simpa using this
        have HT := Lib.hid (List.take_append_getElem hkn)
        have hbd := numV_bd' (l := l.take k) (by
          refine List.all_eq_true.2 fun x hx => List.all_eq_true.1 HA.out x ?_
          have : l.take k = (l.take j).take k := by rw [List.take_take, Nat.min_eq_left (by omega)]
          rw [this] at hx
          exact List.mem_of_mem_take hx) (by simp; omega)
        simp only [digB, decide_eq_true_eq] at hb
        have hnx : ∀ ty, (Instr.next (.pointer (some ⟨w.heap.size, 0, none⟩)) true ty).run Tryz.prog (w.iter (bs l) k) = .ok (.tuple #[.bool true, .int .i64 k, .int .i32 ((l[k]'hkn).toNat : Nat)]) (w.iter (bs l) (k + 1)) := fun ty => by
          rw [← hg]
          exact run_next_ascii (P := Tryz.prog) w (bs l) k ty hki (by rw [hg]; omega)
        clear hg
        generalize l[k]'hkn = b at *
        have HN := Lib.hid (show numV (l.take (k + 1)) = 10 * numV (l.take k) + ((b.toNat : Int) - 48) by rw [← HT.out, numV_snoc])
        generalize numV (l.take k) = v at *
        have v0 : IntKind.i64.wrap (b.toNat : Int) = (b.toNat : Int) := wI (by omega) (by omega)
        have v1 : IntKind.i32.wrap ((b.toNat : Int) - 48) = (b.toNat : Int) - 48 := by rw [IntKind.wrap_i32]; omega
        have v2 : IntKind.i64.wrap ((b.toNat : Int) - 48) = (b.toNat : Int) - 48 := wI (by omega) (by omega)
        have v3 : IntKind.i64.wrap (10 * v) = 10 * v := wI (by omega) (by omega)
        have v4 : IntKind.i64.wrap (10 * v + ((b.toNat : Int) - 48)) = 10 * v + ((b.toNat : Int) - 48) := wI (by omega) (by omega)
        have HWb := Lib.hid fun (W : World) => HW9.out (b.toNat : Int) (by omega) W
        go_wp2_with (go_at_call 102; refine (HWb.out _).mono ?_; rintro e w1 ⟨rfl, rfl⟩)
        go_roundw
        case rel => exact ⟨k + 1, by omega, by rw [HN.out], rfl⟩
        case measure => rw [iterPos_iter, iterPos_iter, bs_size]; omega
      · have hkj2 : k = j := by omega
        subst hkj2
        have hb := HD.out
        have hnx : ∃ r n : Nat, (r < 48 ∨ 57 < r) ∧ r ≤ 2100000 ∧ ∀ ty, (Instr.next (.pointer (some ⟨w.heap.size, 0, none⟩)) true ty).run Tryz.prog (w.iter (bs l) k) = .ok (.tuple #[.bool true, .int .i64 k, .int .i32 (r : Nat)]) (w.iter (bs l) (k + n)) := by
          by_cases ha : (l[k]'hkn).toNat < 128
          · refine ⟨(l[k]'hkn).toNat, 1, by simp only [digB, decide_eq_false_iff_not] at hb; omega, by omega, fun ty => ?_⟩
            rw [← hg]
            exact run_next_ascii (P := Tryz.prog) w (bs l) k ty hki (by rw [hg]; omega)
          · have := decode_wide (bs l) k hki (by rw [hg]; omega)
            exact ⟨(Utf8.decode (bs l) k).1, (Utf8.decode (bs l) k).2, by omega, by have := decode_small (bs l) k; omega, fun ty => run_next_wide (P := Tryz.prog) w (bs l) k ty hki⟩
        obtain ⟨r, n, hr, hr2, hnx⟩ := hnx
        clear hg hb
        have v0 : IntKind.i64.wrap (r : Int) = (r : Int) := wI (by omega) (by omega)
        have HBi := Lib.hid (show Below w.heap.size w (w.iter (bs l) (k + n)) from newB (Below.refl _ _) _)
        have HWb := Lib.hid fun (W : World) => HX9.out (r : Int) (by omega) W
        go_wp2_with (go_at_call 102; refine (HWb.out _).mono ?_; rintro e w1 ⟨rfl, rfl⟩)
        exact ⟨rfl, rfl, HBi.out⟩
end Go.Proofs
