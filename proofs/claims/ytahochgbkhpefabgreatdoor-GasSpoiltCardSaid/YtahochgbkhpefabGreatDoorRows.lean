/-
  NARROWER THAN 'FOR EVERY INPUT', by the rows' own cells (each row's printed sentence says how): GasHelped: laid · GasMoments: laid · GasLatest: laid · GasWaits: laid · GasRested: laid · GasTreated: laid · GasPrints: laid · GasReads: laid · GasSpoilt: laid · GasMore: laid.
  DERIVED. THE GIVEN ROWS OF THIS SEAT. 10 by the template 'for every input the law returns true; each argument reads behind the call as it read before'; 0 by the template 'total and deterministic' (their statements: YtahochgbkhpefabGreatDoorTotals.lean).
  GIVEN WITH THE SEED: the statements are not yours to turn. If you find one false, say at which input.
  Laid BY PROGRAM, IN A SANDBOX (cutbox-rows.mjs): the forced cells as the released guide's own fill.sh prints them over the translation efa8cb0a6ba3d718… (all of the seat's roots in one cut). By AI agents, Wed Nov 11 2026. No macro, syntax, notation, axiom, sorry.
-/
import Derived.Test.YtahochgbkhpefabGreatDoorChecked
import GoSem.PinnedTables
import GoSem.Claim
import GoSem.ClaimJoined
import GoSem.ClaimMapViews
import Derived.JoinedTies
import Derived.KernelRfl
namespace Go.Proofs.YtahochgbkhpefabGreatDoor
/- THE CELL 'sum', in the pinned program and in every row, IS THE sha256 OF THE DUMP (.gsa) THAT YtahochgbkhpefabGreatDoorProg.lean LOADS. Nothing in Lean hashes anything: it is a label: what it is worth is what the hold of that sum in a sandbox is worth. -/
noncomputable def Tryz.pinned : Pinned := { name := "ytahochgbkhpefabgreatdoor", sum := "efa8cb0a6ba3d718fb02bfa37f1de0d94a0d87aabb4fb1783a2dd3a842a7f243", checked := Tryz.checked }
namespace Rows
def none {H : Type} : Left H := { results := [], args := [] }

/- WHAT THE LISTED PACKAGE-LEVEL VARIABLES READ AS WHEN THE CALL BEGINS. Each datum BY PROGRAM (the guide's laid-datum.mjs) off the statement by which the dump's own 'gosem.cut.vars' lays the variable. In a bare row this is a premise. The card (YtahochgbkhpefabGreatDoorCards.lean) ties it to the program's text. -/
def laid_math_bits_deBruijn32tab {H : Type} : DataW H := .agg [.lit (.int .u8 0), .lit (.int .u8 1), .lit (.int .u8 28), .lit (.int .u8 2), .lit (.int .u8 29), .lit (.int .u8 14), .lit (.int .u8 24), .lit (.int .u8 3), .lit (.int .u8 30), .lit (.int .u8 22), .lit (.int .u8 20), .lit (.int .u8 15), .lit (.int .u8 25), .lit (.int .u8 17), .lit (.int .u8 4), .lit (.int .u8 8), .lit (.int .u8 31), .lit (.int .u8 27), .lit (.int .u8 13), .lit (.int .u8 23), .lit (.int .u8 21), .lit (.int .u8 19), .lit (.int .u8 16), .lit (.int .u8 7), .lit (.int .u8 26), .lit (.int .u8 12), .lit (.int .u8 18), .lit (.int .u8 6), .lit (.int .u8 11), .lit (.int .u8 5), .lit (.int .u8 10), .lit (.int .u8 9)]
def laid_math_bits_deBruijn64tab {H : Type} : DataW H := .agg [.lit (.int .u8 0), .lit (.int .u8 1), .lit (.int .u8 56), .lit (.int .u8 2), .lit (.int .u8 57), .lit (.int .u8 49), .lit (.int .u8 28), .lit (.int .u8 3), .lit (.int .u8 61), .lit (.int .u8 58), .lit (.int .u8 42), .lit (.int .u8 50), .lit (.int .u8 38), .lit (.int .u8 29), .lit (.int .u8 17), .lit (.int .u8 4), .lit (.int .u8 62), .lit (.int .u8 47), .lit (.int .u8 59), .lit (.int .u8 36), .lit (.int .u8 45), .lit (.int .u8 43), .lit (.int .u8 51), .lit (.int .u8 22), .lit (.int .u8 53), .lit (.int .u8 39), .lit (.int .u8 33), .lit (.int .u8 30), .lit (.int .u8 24), .lit (.int .u8 18), .lit (.int .u8 12), .lit (.int .u8 5), .lit (.int .u8 63), .lit (.int .u8 55), .lit (.int .u8 48), .lit (.int .u8 27), .lit (.int .u8 60), .lit (.int .u8 41), .lit (.int .u8 37), .lit (.int .u8 16), .lit (.int .u8 46), .lit (.int .u8 35), .lit (.int .u8 44), .lit (.int .u8 21), .lit (.int .u8 52), .lit (.int .u8 32), .lit (.int .u8 23), .lit (.int .u8 11), .lit (.int .u8 54), .lit (.int .u8 26), .lit (.int .u8 40), .lit (.int .u8 15), .lit (.int .u8 34), .lit (.int .u8 20), .lit (.int .u8 31), .lit (.int .u8 10), .lit (.int .u8 25), .lit (.int .u8 14), .lit (.int .u8 19), .lit (.int .u8 9), .lit (.int .u8 13), .lit (.int .u8 8), .lit (.int .u8 7), .lit (.int .u8 6)]
def laid_internal_strconv_uint64pow10 {H : Type} : DataW H := .agg [.lit (.int .u64 1), .lit (.int .u64 10), .lit (.int .u64 100), .lit (.int .u64 1000), .lit (.int .u64 10000), .lit (.int .u64 100000), .lit (.int .u64 1000000), .lit (.int .u64 10000000), .lit (.int .u64 100000000), .lit (.int .u64 1000000000), .lit (.int .u64 10000000000), .lit (.int .u64 100000000000), .lit (.int .u64 1000000000000), .lit (.int .u64 10000000000000), .lit (.int .u64 100000000000000), .lit (.int .u64 1000000000000000), .lit (.int .u64 10000000000000000), .lit (.int .u64 100000000000000000), .lit (.int .u64 1000000000000000000), .lit (.int .u64 10000000000000000000)]
def laid_unicode_utf8_acceptRanges {H : Type} : DataW H := .agg [.agg [.lit (.int .u8 128), .lit (.int .u8 191)], .agg [.lit (.int .u8 160), .lit (.int .u8 191)], .agg [.lit (.int .u8 128), .lit (.int .u8 159)], .agg [.lit (.int .u8 144), .lit (.int .u8 191)], .agg [.lit (.int .u8 128), .lit (.int .u8 143)], .agg [.lit (.int .u8 0), .lit (.int .u8 0)], .agg [.lit (.int .u8 0), .lit (.int .u8 0)], .agg [.lit (.int .u8 0), .lit (.int .u8 0)], .agg [.lit (.int .u8 0), .lit (.int .u8 0)], .agg [.lit (.int .u8 0), .lit (.int .u8 0)], .agg [.lit (.int .u8 0), .lit (.int .u8 0)], .agg [.lit (.int .u8 0), .lit (.int .u8 0)], .agg [.lit (.int .u8 0), .lit (.int .u8 0)], .agg [.lit (.int .u8 0), .lit (.int .u8 0)], .agg [.lit (.int .u8 0), .lit (.int .u8 0)], .agg [.lit (.int .u8 0), .lit (.int .u8 0)]]
/-- One of Go's own tables, pinned by name: the form's constant. -/
def laid_unicode_utf8_first : DataW Unit := Go.Pinned.utf8First

/-- 'bathyallaw02.GasHelped': WHATEVER THE INPUT: true; the input reads as it did. -/
def gasHelpedSpec : ChangeSpec := { name := "gasHelped", fn := fun _ => fun
  | [d1, d2, d3, d4] => { results := [.lit (.bool true)], args := [d1, d2, d3, d4] }
  | _ => none }
def gasHelpedRow : OpenClaim := { program := "ytahochgbkhpefabgreatdoor", sum := "efa8cb0a6ba3d718fb02bfa37f1de0d94a0d87aabb4fb1783a2dd3a842a7f243", func := "bathyal/bathyallaw02.GasHelped", spec := "gasHelped", inPlace := ["internal/abi.NoEscape", "internal/bytealg.MakeNoZero"], unfollowed := true, recurses := true, named := ["internal/strconv.uint64pow10", "math/bits.deBruijn32tab", "math/bits.deBruijn64tab"], plainKeys := false, apart := false, laid := [("math/bits.deBruijn32tab", laid_math_bits_deBruijn32tab), ("math/bits.deBruijn64tab", laid_math_bits_deBruijn64tab), ("internal/strconv.uint64pow10", laid_internal_strconv_uint64pow10)] }
def GasHelpedSaid : Prop := gasHelpedRow.holds Tryz.pinned (OpenSpec.ofChange gasHelpedSpec)

/-- ITS FALSE NEIGHBOUR: 'it returns false'. Refute it at one input. -/
def gasHelpedWrong : ChangeSpec := { name := "gasHelped", fn := fun _ => fun
  | [d1, d2, d3, d4] => { results := [.lit (.bool false)], args := [d1, d2, d3, d4] }
  | _ => none }
def GasHelpedWrongFalsely : Prop := gasHelpedRow.holds Tryz.pinned (OpenSpec.ofChange gasHelpedWrong)

/-- 'bathyallaw02.GasMoments': WHATEVER THE INPUT: true; the input reads as it did. -/
def gasMomentsSpec : ChangeSpec := { name := "gasMoments", fn := fun _ => fun
  | [d1, d2, d3, d4] => { results := [.lit (.bool true)], args := [d1, d2, d3, d4] }
  | _ => none }
def gasMomentsRow : OpenClaim := { program := "ytahochgbkhpefabgreatdoor", sum := "efa8cb0a6ba3d718fb02bfa37f1de0d94a0d87aabb4fb1783a2dd3a842a7f243", func := "bathyal/bathyallaw02.GasMoments", spec := "gasMoments", inPlace := ["internal/abi.NoEscape", "internal/bytealg.MakeNoZero"], unfollowed := true, recurses := true, named := ["internal/strconv.uint64pow10", "math/bits.deBruijn32tab", "math/bits.deBruijn64tab"], plainKeys := false, apart := false, laid := [("math/bits.deBruijn32tab", laid_math_bits_deBruijn32tab), ("math/bits.deBruijn64tab", laid_math_bits_deBruijn64tab), ("internal/strconv.uint64pow10", laid_internal_strconv_uint64pow10)] }
def GasMomentsSaid : Prop := gasMomentsRow.holds Tryz.pinned (OpenSpec.ofChange gasMomentsSpec)

/-- ITS FALSE NEIGHBOUR: 'it returns false'. Refute it at one input. -/
def gasMomentsWrong : ChangeSpec := { name := "gasMoments", fn := fun _ => fun
  | [d1, d2, d3, d4] => { results := [.lit (.bool false)], args := [d1, d2, d3, d4] }
  | _ => none }
def GasMomentsWrongFalsely : Prop := gasMomentsRow.holds Tryz.pinned (OpenSpec.ofChange gasMomentsWrong)

/-- 'bathyallaw02.GasLatest': WHATEVER THE INPUT: true; the input reads as it did. -/
def gasLatestSpec : ChangeSpec := { name := "gasLatest", fn := fun _ => fun
  | [d1, d2, d3, d4, d5, d6] => { results := [.lit (.bool true)], args := [d1, d2, d3, d4, d5, d6] }
  | _ => none }
def gasLatestRow : OpenClaim := { program := "ytahochgbkhpefabgreatdoor", sum := "efa8cb0a6ba3d718fb02bfa37f1de0d94a0d87aabb4fb1783a2dd3a842a7f243", func := "bathyal/bathyallaw02.GasLatest", spec := "gasLatest", inPlace := ["internal/abi.NoEscape", "internal/bytealg.MakeNoZero"], unfollowed := true, recurses := true, named := ["internal/strconv.uint64pow10", "math/bits.deBruijn32tab", "math/bits.deBruijn64tab"], plainKeys := false, apart := false, laid := [("math/bits.deBruijn32tab", laid_math_bits_deBruijn32tab), ("math/bits.deBruijn64tab", laid_math_bits_deBruijn64tab), ("internal/strconv.uint64pow10", laid_internal_strconv_uint64pow10)] }
def GasLatestSaid : Prop := gasLatestRow.holds Tryz.pinned (OpenSpec.ofChange gasLatestSpec)

/-- ITS FALSE NEIGHBOUR: 'it returns false'. Refute it at one input. -/
def gasLatestWrong : ChangeSpec := { name := "gasLatest", fn := fun _ => fun
  | [d1, d2, d3, d4, d5, d6] => { results := [.lit (.bool false)], args := [d1, d2, d3, d4, d5, d6] }
  | _ => none }
def GasLatestWrongFalsely : Prop := gasLatestRow.holds Tryz.pinned (OpenSpec.ofChange gasLatestWrong)

/-- 'bathyallaw02.GasWaits': WHATEVER THE INPUT: true; the input reads as it did. -/
def gasWaitsSpec : ChangeSpec := { name := "gasWaits", fn := fun _ => fun
  | [d1, d2, d3, d4] => { results := [.lit (.bool true)], args := [d1, d2, d3, d4] }
  | _ => none }
def gasWaitsRow : OpenClaim := { program := "ytahochgbkhpefabgreatdoor", sum := "efa8cb0a6ba3d718fb02bfa37f1de0d94a0d87aabb4fb1783a2dd3a842a7f243", func := "bathyal/bathyallaw02.GasWaits", spec := "gasWaits", inPlace := ["internal/abi.NoEscape", "internal/bytealg.MakeNoZero"], unfollowed := true, recurses := true, named := ["internal/strconv.uint64pow10", "math/bits.deBruijn32tab", "math/bits.deBruijn64tab"], plainKeys := false, apart := false, laid := [("math/bits.deBruijn32tab", laid_math_bits_deBruijn32tab), ("math/bits.deBruijn64tab", laid_math_bits_deBruijn64tab), ("internal/strconv.uint64pow10", laid_internal_strconv_uint64pow10)] }
def GasWaitsSaid : Prop := gasWaitsRow.holds Tryz.pinned (OpenSpec.ofChange gasWaitsSpec)

/-- ITS FALSE NEIGHBOUR: 'it returns false'. Refute it at one input. -/
def gasWaitsWrong : ChangeSpec := { name := "gasWaits", fn := fun _ => fun
  | [d1, d2, d3, d4] => { results := [.lit (.bool false)], args := [d1, d2, d3, d4] }
  | _ => none }
def GasWaitsWrongFalsely : Prop := gasWaitsRow.holds Tryz.pinned (OpenSpec.ofChange gasWaitsWrong)

/-- 'bathyallaw02.GasRested': WHATEVER THE INPUT: true; the input reads as it did. -/
def gasRestedSpec : ChangeSpec := { name := "gasRested", fn := fun _ => fun
  | [d1, d2, d3, d4] => { results := [.lit (.bool true)], args := [d1, d2, d3, d4] }
  | _ => none }
def gasRestedRow : OpenClaim := { program := "ytahochgbkhpefabgreatdoor", sum := "efa8cb0a6ba3d718fb02bfa37f1de0d94a0d87aabb4fb1783a2dd3a842a7f243", func := "bathyal/bathyallaw02.GasRested", spec := "gasRested", inPlace := ["internal/abi.NoEscape", "internal/bytealg.MakeNoZero"], unfollowed := true, recurses := true, named := ["internal/strconv.uint64pow10", "math/bits.deBruijn32tab", "math/bits.deBruijn64tab"], plainKeys := false, apart := false, laid := [("math/bits.deBruijn32tab", laid_math_bits_deBruijn32tab), ("math/bits.deBruijn64tab", laid_math_bits_deBruijn64tab), ("internal/strconv.uint64pow10", laid_internal_strconv_uint64pow10)] }
def GasRestedSaid : Prop := gasRestedRow.holds Tryz.pinned (OpenSpec.ofChange gasRestedSpec)

/-- ITS FALSE NEIGHBOUR: 'it returns false'. Refute it at one input. -/
def gasRestedWrong : ChangeSpec := { name := "gasRested", fn := fun _ => fun
  | [d1, d2, d3, d4] => { results := [.lit (.bool false)], args := [d1, d2, d3, d4] }
  | _ => none }
def GasRestedWrongFalsely : Prop := gasRestedRow.holds Tryz.pinned (OpenSpec.ofChange gasRestedWrong)

/-- 'bathyallaw02.GasTreated': WHATEVER THE INPUT: true; the input reads as it did. -/
def gasTreatedSpec : ChangeSpec := { name := "gasTreated", fn := fun _ => fun
  | [d1, d2, d3, d4, d5] => { results := [.lit (.bool true)], args := [d1, d2, d3, d4, d5] }
  | _ => none }
def gasTreatedRow : OpenClaim := { program := "ytahochgbkhpefabgreatdoor", sum := "efa8cb0a6ba3d718fb02bfa37f1de0d94a0d87aabb4fb1783a2dd3a842a7f243", func := "bathyal/bathyallaw02.GasTreated", spec := "gasTreated", inPlace := ["internal/abi.NoEscape", "internal/bytealg.MakeNoZero"], unfollowed := true, recurses := true, named := ["internal/strconv.uint64pow10", "math/bits.deBruijn32tab", "math/bits.deBruijn64tab"], plainKeys := false, apart := false, laid := [("math/bits.deBruijn32tab", laid_math_bits_deBruijn32tab), ("math/bits.deBruijn64tab", laid_math_bits_deBruijn64tab), ("internal/strconv.uint64pow10", laid_internal_strconv_uint64pow10)] }
def GasTreatedSaid : Prop := gasTreatedRow.holds Tryz.pinned (OpenSpec.ofChange gasTreatedSpec)

/-- ITS FALSE NEIGHBOUR: 'it returns false'. Refute it at one input. -/
def gasTreatedWrong : ChangeSpec := { name := "gasTreated", fn := fun _ => fun
  | [d1, d2, d3, d4, d5] => { results := [.lit (.bool false)], args := [d1, d2, d3, d4, d5] }
  | _ => none }
def GasTreatedWrongFalsely : Prop := gasTreatedRow.holds Tryz.pinned (OpenSpec.ofChange gasTreatedWrong)

/-- 'bathyallaw02.GasPrints': WHATEVER THE INPUT: true; the input reads as it did. -/
def gasPrintsSpec : ChangeSpec := { name := "gasPrints", fn := fun _ => fun
  | [d] => { results := [.lit (.bool true)], args := [d] }
  | _ => none }
def gasPrintsRow : OpenClaim := { program := "ytahochgbkhpefabgreatdoor", sum := "efa8cb0a6ba3d718fb02bfa37f1de0d94a0d87aabb4fb1783a2dd3a842a7f243", func := "bathyal/bathyallaw02.GasPrints", spec := "gasPrints", inPlace := ["internal/abi.NoEscape", "internal/bytealg.MakeNoZero", "internal/bytealg.CountString", "internal/bytealg.IndexByteString", "internal/bytealg.IndexString"], unfollowed := true, recurses := true, named := ["internal/strconv.uint64pow10", "math/bits.deBruijn32tab", "math/bits.deBruijn64tab", "unicode/utf8.first", "unicode/utf8.acceptRanges", "internal/bytealg.MaxLen"], plainKeys := false, apart := false, laid := [("math/bits.deBruijn32tab", laid_math_bits_deBruijn32tab), ("math/bits.deBruijn64tab", laid_math_bits_deBruijn64tab), ("internal/strconv.uint64pow10", laid_internal_strconv_uint64pow10), ("unicode/utf8.acceptRanges", laid_unicode_utf8_acceptRanges), ("unicode/utf8.first", laid_unicode_utf8_first)] }
def GasPrintsSaid : Prop := gasPrintsRow.holds Tryz.pinned (OpenSpec.ofChange gasPrintsSpec)

/-- ITS FALSE NEIGHBOUR: 'it returns false'. Refute it at one input. -/
def gasPrintsWrong : ChangeSpec := { name := "gasPrints", fn := fun _ => fun
  | [d] => { results := [.lit (.bool false)], args := [d] }
  | _ => none }
def GasPrintsWrongFalsely : Prop := gasPrintsRow.holds Tryz.pinned (OpenSpec.ofChange gasPrintsWrong)

/-- 'bathyallaw02.GasReads': WHATEVER THE INPUT: true; the input reads as it did. -/
def gasReadsSpec : ChangeSpec := { name := "gasReads", fn := fun _ => fun
  | [d] => { results := [.lit (.bool true)], args := [d] }
  | _ => none }
def gasReadsRow : OpenClaim := { program := "ytahochgbkhpefabgreatdoor", sum := "efa8cb0a6ba3d718fb02bfa37f1de0d94a0d87aabb4fb1783a2dd3a842a7f243", func := "bathyal/bathyallaw02.GasReads", spec := "gasReads", inPlace := ["internal/abi.NoEscape", "internal/bytealg.MakeNoZero", "internal/bytealg.CountString", "internal/bytealg.IndexByteString", "internal/bytealg.IndexString"], unfollowed := true, recurses := true, named := ["internal/strconv.uint64pow10", "math/bits.deBruijn32tab", "math/bits.deBruijn64tab", "unicode/utf8.first", "unicode/utf8.acceptRanges", "internal/bytealg.MaxLen"], plainKeys := false, apart := false, laid := [("math/bits.deBruijn32tab", laid_math_bits_deBruijn32tab), ("math/bits.deBruijn64tab", laid_math_bits_deBruijn64tab), ("internal/strconv.uint64pow10", laid_internal_strconv_uint64pow10), ("unicode/utf8.acceptRanges", laid_unicode_utf8_acceptRanges), ("unicode/utf8.first", laid_unicode_utf8_first)] }
def GasReadsSaid : Prop := gasReadsRow.holds Tryz.pinned (OpenSpec.ofChange gasReadsSpec)

/-- ITS FALSE NEIGHBOUR: 'it returns false'. Refute it at one input. -/
def gasReadsWrong : ChangeSpec := { name := "gasReads", fn := fun _ => fun
  | [d] => { results := [.lit (.bool false)], args := [d] }
  | _ => none }
def GasReadsWrongFalsely : Prop := gasReadsRow.holds Tryz.pinned (OpenSpec.ofChange gasReadsWrong)

/-- 'bathyallaw02.GasSpoilt': WHATEVER THE INPUT: true; the input reads as it did. -/
def gasSpoiltSpec : ChangeSpec := { name := "gasSpoilt", fn := fun _ => fun
  | [d1, d2, d3] => { results := [.lit (.bool true)], args := [d1, d2, d3] }
  | _ => none }
def gasSpoiltRow : OpenClaim := { program := "ytahochgbkhpefabgreatdoor", sum := "efa8cb0a6ba3d718fb02bfa37f1de0d94a0d87aabb4fb1783a2dd3a842a7f243", func := "bathyal/bathyallaw02.GasSpoilt", spec := "gasSpoilt", inPlace := ["internal/abi.NoEscape", "internal/bytealg.MakeNoZero", "internal/bytealg.CountString", "internal/bytealg.IndexByteString", "internal/bytealg.IndexString"], unfollowed := true, recurses := true, named := ["internal/strconv.uint64pow10", "math/bits.deBruijn32tab", "math/bits.deBruijn64tab", "unicode/utf8.first", "unicode/utf8.acceptRanges", "internal/bytealg.MaxLen"], plainKeys := false, apart := false, laid := [("math/bits.deBruijn32tab", laid_math_bits_deBruijn32tab), ("math/bits.deBruijn64tab", laid_math_bits_deBruijn64tab), ("internal/strconv.uint64pow10", laid_internal_strconv_uint64pow10), ("unicode/utf8.acceptRanges", laid_unicode_utf8_acceptRanges), ("unicode/utf8.first", laid_unicode_utf8_first)] }
def GasSpoiltSaid : Prop := gasSpoiltRow.holds Tryz.pinned (OpenSpec.ofChange gasSpoiltSpec)

/-- ITS FALSE NEIGHBOUR: 'it returns false'. Refute it at one input. -/
def gasSpoiltWrong : ChangeSpec := { name := "gasSpoilt", fn := fun _ => fun
  | [d1, d2, d3] => { results := [.lit (.bool false)], args := [d1, d2, d3] }
  | _ => none }
def GasSpoiltWrongFalsely : Prop := gasSpoiltRow.holds Tryz.pinned (OpenSpec.ofChange gasSpoiltWrong)

/-- 'bathyallaw02.GasMore': WHATEVER THE INPUT: true; the input reads as it did. -/
def gasMoreSpec : ChangeSpec := { name := "gasMore", fn := fun _ => fun
  | [d1, d2, d3, d4, d5, d6] => { results := [.lit (.bool true)], args := [d1, d2, d3, d4, d5, d6] }
  | _ => none }
def gasMoreRow : OpenClaim := { program := "ytahochgbkhpefabgreatdoor", sum := "efa8cb0a6ba3d718fb02bfa37f1de0d94a0d87aabb4fb1783a2dd3a842a7f243", func := "bathyal/bathyallaw02.GasMore", spec := "gasMore", inPlace := ["internal/abi.NoEscape", "internal/bytealg.MakeNoZero"], unfollowed := true, recurses := true, named := ["internal/strconv.uint64pow10", "math/bits.deBruijn32tab", "math/bits.deBruijn64tab"], plainKeys := false, apart := false, laid := [("math/bits.deBruijn32tab", laid_math_bits_deBruijn32tab), ("math/bits.deBruijn64tab", laid_math_bits_deBruijn64tab), ("internal/strconv.uint64pow10", laid_internal_strconv_uint64pow10)] }
def GasMoreSaid : Prop := gasMoreRow.holds Tryz.pinned (OpenSpec.ofChange gasMoreSpec)

/-- ITS FALSE NEIGHBOUR: 'it returns false'. Refute it at one input. -/
def gasMoreWrong : ChangeSpec := { name := "gasMore", fn := fun _ => fun
  | [d1, d2, d3, d4, d5, d6] => { results := [.lit (.bool false)], args := [d1, d2, d3, d4, d5, d6] }
  | _ => none }
def GasMoreWrongFalsely : Prop := gasMoreRow.holds Tryz.pinned (OpenSpec.ofChange gasMoreWrong)

/- THE SECOND FORM. 'bulk': how many values and letters a reading holds, each counted each time it is reached (what is shared counts as often as it is met; a slice's spare places count too). A statement '..UptoSaid' is the law's where the arguments, and the package variables that the reading takes, are together of bulk at most 1048576: NARROWER than '..Said'. Prove '..Said' where nothing that the law and all that it calls make is longer than what came in: it says more and counts as full. Else prove '..UptoSaid'. A law counts once. -/
mutual
def uptoBulk {H : Type} : DataW H → Nat
  | .lit (.string bytes) => bytes.length + 1
  | .lit _ => 1
  | .nil => 1
  | .ptr d => uptoBulk d + 1
  | .slice elems spare => uptoBulkAll elems + uptoBulkAll spare + 1
  | .agg parts => uptoBulkAll parts + 1
  | .iface _ d => uptoBulk d + 1
  | .map entries => uptoBulkEntries entries + 1
  | .held _ => 1
def uptoBulkAll {H : Type} : List (DataW H) → Nat
  | [] => 0
  | d :: r => uptoBulk d + uptoBulkAll r
def uptoBulkEntries {H : Type} : List (Lit × DataW H) → Nat
  | [] => 0
  | x :: r => uptoBulkEntry x + uptoBulkEntries r
def uptoBulkEntry {H : Type} : Lit × DataW H → Nat
  | (.string bytes, d) => bytes.length + uptoBulk d + 1
  | (_, d) => uptoBulk d + 1
 end
def uptoSmall : (H : Type) → List (DataW H) → Bool := fun _ ds => decide (uptoBulkAll ds ≤ 1048576)
def OpenSpec.upto (s : _root_.Go.ChangeSpec) : _root_.Go.OpenSpec := { _root_.Go.OpenSpec.ofChange s with cond := some uptoSmall }

/-- 'bathyallaw02.GasHelped', WHERE WHAT IT READS IS OF BULK AT MOST 1048576: true; the input reads as it did. -/
def gasHelpedUptoRow : OpenClaim := { program := "ytahochgbkhpefabgreatdoor", sum := "efa8cb0a6ba3d718fb02bfa37f1de0d94a0d87aabb4fb1783a2dd3a842a7f243", func := "bathyal/bathyallaw02.GasHelped", spec := "gasHelped", inPlace := ["internal/abi.NoEscape", "internal/bytealg.MakeNoZero"], unfollowed := true, recurses := true, named := ["internal/strconv.uint64pow10", "math/bits.deBruijn32tab", "math/bits.deBruijn64tab"], plainKeys := false, apart := false, laid := [("math/bits.deBruijn32tab", laid_math_bits_deBruijn32tab), ("math/bits.deBruijn64tab", laid_math_bits_deBruijn64tab), ("internal/strconv.uint64pow10", laid_internal_strconv_uint64pow10)], narrowed := true }
def GasHelpedUptoSaid : Prop := gasHelpedUptoRow.holds Tryz.pinned (OpenSpec.upto gasHelpedSpec)

/-- 'bathyallaw02.GasMoments', WHERE WHAT IT READS IS OF BULK AT MOST 1048576: true; the input reads as it did. -/
def gasMomentsUptoRow : OpenClaim := { program := "ytahochgbkhpefabgreatdoor", sum := "efa8cb0a6ba3d718fb02bfa37f1de0d94a0d87aabb4fb1783a2dd3a842a7f243", func := "bathyal/bathyallaw02.GasMoments", spec := "gasMoments", inPlace := ["internal/abi.NoEscape", "internal/bytealg.MakeNoZero"], unfollowed := true, recurses := true, named := ["internal/strconv.uint64pow10", "math/bits.deBruijn32tab", "math/bits.deBruijn64tab"], plainKeys := false, apart := false, laid := [("math/bits.deBruijn32tab", laid_math_bits_deBruijn32tab), ("math/bits.deBruijn64tab", laid_math_bits_deBruijn64tab), ("internal/strconv.uint64pow10", laid_internal_strconv_uint64pow10)], narrowed := true }
def GasMomentsUptoSaid : Prop := gasMomentsUptoRow.holds Tryz.pinned (OpenSpec.upto gasMomentsSpec)

/-- 'bathyallaw02.GasLatest', WHERE WHAT IT READS IS OF BULK AT MOST 1048576: true; the input reads as it did. -/
def gasLatestUptoRow : OpenClaim := { program := "ytahochgbkhpefabgreatdoor", sum := "efa8cb0a6ba3d718fb02bfa37f1de0d94a0d87aabb4fb1783a2dd3a842a7f243", func := "bathyal/bathyallaw02.GasLatest", spec := "gasLatest", inPlace := ["internal/abi.NoEscape", "internal/bytealg.MakeNoZero"], unfollowed := true, recurses := true, named := ["internal/strconv.uint64pow10", "math/bits.deBruijn32tab", "math/bits.deBruijn64tab"], plainKeys := false, apart := false, laid := [("math/bits.deBruijn32tab", laid_math_bits_deBruijn32tab), ("math/bits.deBruijn64tab", laid_math_bits_deBruijn64tab), ("internal/strconv.uint64pow10", laid_internal_strconv_uint64pow10)], narrowed := true }
def GasLatestUptoSaid : Prop := gasLatestUptoRow.holds Tryz.pinned (OpenSpec.upto gasLatestSpec)

/-- 'bathyallaw02.GasWaits', WHERE WHAT IT READS IS OF BULK AT MOST 1048576: true; the input reads as it did. -/
def gasWaitsUptoRow : OpenClaim := { program := "ytahochgbkhpefabgreatdoor", sum := "efa8cb0a6ba3d718fb02bfa37f1de0d94a0d87aabb4fb1783a2dd3a842a7f243", func := "bathyal/bathyallaw02.GasWaits", spec := "gasWaits", inPlace := ["internal/abi.NoEscape", "internal/bytealg.MakeNoZero"], unfollowed := true, recurses := true, named := ["internal/strconv.uint64pow10", "math/bits.deBruijn32tab", "math/bits.deBruijn64tab"], plainKeys := false, apart := false, laid := [("math/bits.deBruijn32tab", laid_math_bits_deBruijn32tab), ("math/bits.deBruijn64tab", laid_math_bits_deBruijn64tab), ("internal/strconv.uint64pow10", laid_internal_strconv_uint64pow10)], narrowed := true }
def GasWaitsUptoSaid : Prop := gasWaitsUptoRow.holds Tryz.pinned (OpenSpec.upto gasWaitsSpec)

/-- 'bathyallaw02.GasRested', WHERE WHAT IT READS IS OF BULK AT MOST 1048576: true; the input reads as it did. -/
def gasRestedUptoRow : OpenClaim := { program := "ytahochgbkhpefabgreatdoor", sum := "efa8cb0a6ba3d718fb02bfa37f1de0d94a0d87aabb4fb1783a2dd3a842a7f243", func := "bathyal/bathyallaw02.GasRested", spec := "gasRested", inPlace := ["internal/abi.NoEscape", "internal/bytealg.MakeNoZero"], unfollowed := true, recurses := true, named := ["internal/strconv.uint64pow10", "math/bits.deBruijn32tab", "math/bits.deBruijn64tab"], plainKeys := false, apart := false, laid := [("math/bits.deBruijn32tab", laid_math_bits_deBruijn32tab), ("math/bits.deBruijn64tab", laid_math_bits_deBruijn64tab), ("internal/strconv.uint64pow10", laid_internal_strconv_uint64pow10)], narrowed := true }
def GasRestedUptoSaid : Prop := gasRestedUptoRow.holds Tryz.pinned (OpenSpec.upto gasRestedSpec)

/-- 'bathyallaw02.GasTreated', WHERE WHAT IT READS IS OF BULK AT MOST 1048576: true; the input reads as it did. -/
def gasTreatedUptoRow : OpenClaim := { program := "ytahochgbkhpefabgreatdoor", sum := "efa8cb0a6ba3d718fb02bfa37f1de0d94a0d87aabb4fb1783a2dd3a842a7f243", func := "bathyal/bathyallaw02.GasTreated", spec := "gasTreated", inPlace := ["internal/abi.NoEscape", "internal/bytealg.MakeNoZero"], unfollowed := true, recurses := true, named := ["internal/strconv.uint64pow10", "math/bits.deBruijn32tab", "math/bits.deBruijn64tab"], plainKeys := false, apart := false, laid := [("math/bits.deBruijn32tab", laid_math_bits_deBruijn32tab), ("math/bits.deBruijn64tab", laid_math_bits_deBruijn64tab), ("internal/strconv.uint64pow10", laid_internal_strconv_uint64pow10)], narrowed := true }
def GasTreatedUptoSaid : Prop := gasTreatedUptoRow.holds Tryz.pinned (OpenSpec.upto gasTreatedSpec)

/-- 'bathyallaw02.GasPrints', WHERE WHAT IT READS IS OF BULK AT MOST 1048576: true; the input reads as it did. -/
def gasPrintsUptoRow : OpenClaim := { program := "ytahochgbkhpefabgreatdoor", sum := "efa8cb0a6ba3d718fb02bfa37f1de0d94a0d87aabb4fb1783a2dd3a842a7f243", func := "bathyal/bathyallaw02.GasPrints", spec := "gasPrints", inPlace := ["internal/abi.NoEscape", "internal/bytealg.MakeNoZero", "internal/bytealg.CountString", "internal/bytealg.IndexByteString", "internal/bytealg.IndexString"], unfollowed := true, recurses := true, named := ["internal/strconv.uint64pow10", "math/bits.deBruijn32tab", "math/bits.deBruijn64tab", "unicode/utf8.first", "unicode/utf8.acceptRanges", "internal/bytealg.MaxLen"], plainKeys := false, apart := false, laid := [("math/bits.deBruijn32tab", laid_math_bits_deBruijn32tab), ("math/bits.deBruijn64tab", laid_math_bits_deBruijn64tab), ("internal/strconv.uint64pow10", laid_internal_strconv_uint64pow10), ("unicode/utf8.acceptRanges", laid_unicode_utf8_acceptRanges), ("unicode/utf8.first", laid_unicode_utf8_first)], narrowed := true }
def GasPrintsUptoSaid : Prop := gasPrintsUptoRow.holds Tryz.pinned (OpenSpec.upto gasPrintsSpec)

/-- 'bathyallaw02.GasReads', WHERE WHAT IT READS IS OF BULK AT MOST 1048576: true; the input reads as it did. -/
def gasReadsUptoRow : OpenClaim := { program := "ytahochgbkhpefabgreatdoor", sum := "efa8cb0a6ba3d718fb02bfa37f1de0d94a0d87aabb4fb1783a2dd3a842a7f243", func := "bathyal/bathyallaw02.GasReads", spec := "gasReads", inPlace := ["internal/abi.NoEscape", "internal/bytealg.MakeNoZero", "internal/bytealg.CountString", "internal/bytealg.IndexByteString", "internal/bytealg.IndexString"], unfollowed := true, recurses := true, named := ["internal/strconv.uint64pow10", "math/bits.deBruijn32tab", "math/bits.deBruijn64tab", "unicode/utf8.first", "unicode/utf8.acceptRanges", "internal/bytealg.MaxLen"], plainKeys := false, apart := false, laid := [("math/bits.deBruijn32tab", laid_math_bits_deBruijn32tab), ("math/bits.deBruijn64tab", laid_math_bits_deBruijn64tab), ("internal/strconv.uint64pow10", laid_internal_strconv_uint64pow10), ("unicode/utf8.acceptRanges", laid_unicode_utf8_acceptRanges), ("unicode/utf8.first", laid_unicode_utf8_first)], narrowed := true }
def GasReadsUptoSaid : Prop := gasReadsUptoRow.holds Tryz.pinned (OpenSpec.upto gasReadsSpec)

/-- 'bathyallaw02.GasSpoilt', WHERE WHAT IT READS IS OF BULK AT MOST 1048576: true; the input reads as it did. -/
def gasSpoiltUptoRow : OpenClaim := { program := "ytahochgbkhpefabgreatdoor", sum := "efa8cb0a6ba3d718fb02bfa37f1de0d94a0d87aabb4fb1783a2dd3a842a7f243", func := "bathyal/bathyallaw02.GasSpoilt", spec := "gasSpoilt", inPlace := ["internal/abi.NoEscape", "internal/bytealg.MakeNoZero", "internal/bytealg.CountString", "internal/bytealg.IndexByteString", "internal/bytealg.IndexString"], unfollowed := true, recurses := true, named := ["internal/strconv.uint64pow10", "math/bits.deBruijn32tab", "math/bits.deBruijn64tab", "unicode/utf8.first", "unicode/utf8.acceptRanges", "internal/bytealg.MaxLen"], plainKeys := false, apart := false, laid := [("math/bits.deBruijn32tab", laid_math_bits_deBruijn32tab), ("math/bits.deBruijn64tab", laid_math_bits_deBruijn64tab), ("internal/strconv.uint64pow10", laid_internal_strconv_uint64pow10), ("unicode/utf8.acceptRanges", laid_unicode_utf8_acceptRanges), ("unicode/utf8.first", laid_unicode_utf8_first)], narrowed := true }
def GasSpoiltUptoSaid : Prop := gasSpoiltUptoRow.holds Tryz.pinned (OpenSpec.upto gasSpoiltSpec)

/-- 'bathyallaw02.GasMore', WHERE WHAT IT READS IS OF BULK AT MOST 1048576: true; the input reads as it did. -/
def gasMoreUptoRow : OpenClaim := { program := "ytahochgbkhpefabgreatdoor", sum := "efa8cb0a6ba3d718fb02bfa37f1de0d94a0d87aabb4fb1783a2dd3a842a7f243", func := "bathyal/bathyallaw02.GasMore", spec := "gasMore", inPlace := ["internal/abi.NoEscape", "internal/bytealg.MakeNoZero"], unfollowed := true, recurses := true, named := ["internal/strconv.uint64pow10", "math/bits.deBruijn32tab", "math/bits.deBruijn64tab"], plainKeys := false, apart := false, laid := [("math/bits.deBruijn32tab", laid_math_bits_deBruijn32tab), ("math/bits.deBruijn64tab", laid_math_bits_deBruijn64tab), ("internal/strconv.uint64pow10", laid_internal_strconv_uint64pow10)], narrowed := true }
def GasMoreUptoSaid : Prop := gasMoreUptoRow.holds Tryz.pinned (OpenSpec.upto gasMoreSpec)

end Rows
end Go.Proofs.YtahochgbkhpefabGreatDoor
