/-
  NARROWER THAN 'FOR EVERY INPUT', by the rows' own cells (each row's printed sentence says how): GasGauges: laid · GasGauged: laid · GasLoads: laid · GasSteady: laid · GasRuns: laid · GasKnowns: laid · GasTrue: laid · GasEnds: laid · GasSures: laid · GasLimits: laid · GasStays: laid · GasStops: laid.
  DERIVED. THE GIVEN ROWS OF THIS SEAT. 12 by the template 'for every input the law returns true; each argument reads behind the call as it read before'; 0 by the template 'total and deterministic' (their statements: YtahochgbkhpefaaGreatDoorTotals.lean).
  GIVEN WITH THE SEED: the statements are not yours to turn. If you find one false, say at which input.
  Laid BY PROGRAM, IN A SANDBOX (cutbox-rows.mjs): the forced cells as the released guide's own fill.sh prints them over the translation d9efebcaefa3492b… (all of the seat's roots in one cut). By AI agents, Wed Nov 11 2026. No macro, syntax, notation, axiom, sorry.
-/
import Derived.Test.YtahochgbkhpefaaGreatDoorChecked
import GoSem.Claim
import GoSem.ClaimJoined
import GoSem.ClaimMapViews
import Derived.JoinedTies
import Derived.KernelRfl
namespace Go.Proofs.YtahochgbkhpefaaGreatDoor
/- THE CELL 'sum', in the pinned program and in every row, IS THE sha256 OF THE DUMP (.gsa) THAT YtahochgbkhpefaaGreatDoorProg.lean LOADS. Nothing in Lean hashes anything: it is a label: what it is worth is what the hold of that sum in a sandbox is worth. -/
noncomputable def Tryz.pinned : Pinned := { name := "ytahochgbkhpefaagreatdoor", sum := "d9efebcaefa3492ba52d1dd3abcb8e3b92c5bbd5241a3eef0670a7be203730fa", checked := Tryz.checked }
namespace Rows
def none {H : Type} : Left H := { results := [], args := [] }

/- WHAT THE LISTED PACKAGE-LEVEL VARIABLES READ AS WHEN THE CALL BEGINS. Each datum BY PROGRAM (the guide's laid-datum.mjs) off the statement by which the dump's own 'gosem.cut.vars' lays the variable. In a bare row this is a premise. The card (YtahochgbkhpefaaGreatDoorCards.lean) ties it to the program's text. -/
def laid_math_bits_deBruijn32tab {H : Type} : DataW H := .agg [.lit (.int .u8 0), .lit (.int .u8 1), .lit (.int .u8 28), .lit (.int .u8 2), .lit (.int .u8 29), .lit (.int .u8 14), .lit (.int .u8 24), .lit (.int .u8 3), .lit (.int .u8 30), .lit (.int .u8 22), .lit (.int .u8 20), .lit (.int .u8 15), .lit (.int .u8 25), .lit (.int .u8 17), .lit (.int .u8 4), .lit (.int .u8 8), .lit (.int .u8 31), .lit (.int .u8 27), .lit (.int .u8 13), .lit (.int .u8 23), .lit (.int .u8 21), .lit (.int .u8 19), .lit (.int .u8 16), .lit (.int .u8 7), .lit (.int .u8 26), .lit (.int .u8 12), .lit (.int .u8 18), .lit (.int .u8 6), .lit (.int .u8 11), .lit (.int .u8 5), .lit (.int .u8 10), .lit (.int .u8 9)]
def laid_math_bits_deBruijn64tab {H : Type} : DataW H := .agg [.lit (.int .u8 0), .lit (.int .u8 1), .lit (.int .u8 56), .lit (.int .u8 2), .lit (.int .u8 57), .lit (.int .u8 49), .lit (.int .u8 28), .lit (.int .u8 3), .lit (.int .u8 61), .lit (.int .u8 58), .lit (.int .u8 42), .lit (.int .u8 50), .lit (.int .u8 38), .lit (.int .u8 29), .lit (.int .u8 17), .lit (.int .u8 4), .lit (.int .u8 62), .lit (.int .u8 47), .lit (.int .u8 59), .lit (.int .u8 36), .lit (.int .u8 45), .lit (.int .u8 43), .lit (.int .u8 51), .lit (.int .u8 22), .lit (.int .u8 53), .lit (.int .u8 39), .lit (.int .u8 33), .lit (.int .u8 30), .lit (.int .u8 24), .lit (.int .u8 18), .lit (.int .u8 12), .lit (.int .u8 5), .lit (.int .u8 63), .lit (.int .u8 55), .lit (.int .u8 48), .lit (.int .u8 27), .lit (.int .u8 60), .lit (.int .u8 41), .lit (.int .u8 37), .lit (.int .u8 16), .lit (.int .u8 46), .lit (.int .u8 35), .lit (.int .u8 44), .lit (.int .u8 21), .lit (.int .u8 52), .lit (.int .u8 32), .lit (.int .u8 23), .lit (.int .u8 11), .lit (.int .u8 54), .lit (.int .u8 26), .lit (.int .u8 40), .lit (.int .u8 15), .lit (.int .u8 34), .lit (.int .u8 20), .lit (.int .u8 31), .lit (.int .u8 10), .lit (.int .u8 25), .lit (.int .u8 14), .lit (.int .u8 19), .lit (.int .u8 9), .lit (.int .u8 13), .lit (.int .u8 8), .lit (.int .u8 7), .lit (.int .u8 6)]
def laid_internal_strconv_uint64pow10 {H : Type} : DataW H := .agg [.lit (.int .u64 1), .lit (.int .u64 10), .lit (.int .u64 100), .lit (.int .u64 1000), .lit (.int .u64 10000), .lit (.int .u64 100000), .lit (.int .u64 1000000), .lit (.int .u64 10000000), .lit (.int .u64 100000000), .lit (.int .u64 1000000000), .lit (.int .u64 10000000000), .lit (.int .u64 100000000000), .lit (.int .u64 1000000000000), .lit (.int .u64 10000000000000), .lit (.int .u64 100000000000000), .lit (.int .u64 1000000000000000), .lit (.int .u64 10000000000000000), .lit (.int .u64 100000000000000000), .lit (.int .u64 1000000000000000000), .lit (.int .u64 10000000000000000000)]

/-- 'bathyallaw02.GasGauges': WHATEVER THE INPUT: true; the input reads as it did. -/
def gasGaugesSpec : ChangeSpec := { name := "gasGauges", fn := fun _ => fun
  | [d1, d2] => { results := [.lit (.bool true)], args := [d1, d2] }
  | _ => none }
def gasGaugesRow : OpenClaim := { program := "ytahochgbkhpefaagreatdoor", sum := "d9efebcaefa3492ba52d1dd3abcb8e3b92c5bbd5241a3eef0670a7be203730fa", func := "bathyal/bathyallaw02.GasGauges", spec := "gasGauges", inPlace := ["internal/abi.NoEscape", "internal/bytealg.MakeNoZero"], unfollowed := true, recurses := true, named := ["internal/strconv.uint64pow10", "math/bits.deBruijn32tab", "math/bits.deBruijn64tab"], plainKeys := false, apart := false, laid := [("math/bits.deBruijn32tab", laid_math_bits_deBruijn32tab), ("math/bits.deBruijn64tab", laid_math_bits_deBruijn64tab), ("internal/strconv.uint64pow10", laid_internal_strconv_uint64pow10)] }
def GasGaugesSaid : Prop := gasGaugesRow.holds Tryz.pinned (OpenSpec.ofChange gasGaugesSpec)

/-- ITS FALSE NEIGHBOUR: 'it returns false'. Refute it at one input. -/
def gasGaugesWrong : ChangeSpec := { name := "gasGauges", fn := fun _ => fun
  | [d1, d2] => { results := [.lit (.bool false)], args := [d1, d2] }
  | _ => none }
def GasGaugesWrongFalsely : Prop := gasGaugesRow.holds Tryz.pinned (OpenSpec.ofChange gasGaugesWrong)

/-- 'bathyallaw02.GasGauged': WHATEVER THE INPUT: true; the input reads as it did. -/
def gasGaugedSpec : ChangeSpec := { name := "gasGauged", fn := fun _ => fun
  | [d1, d2, d3, d4, d5, d6] => { results := [.lit (.bool true)], args := [d1, d2, d3, d4, d5, d6] }
  | _ => none }
def gasGaugedRow : OpenClaim := { program := "ytahochgbkhpefaagreatdoor", sum := "d9efebcaefa3492ba52d1dd3abcb8e3b92c5bbd5241a3eef0670a7be203730fa", func := "bathyal/bathyallaw02.GasGauged", spec := "gasGauged", inPlace := ["internal/abi.NoEscape", "internal/bytealg.MakeNoZero"], unfollowed := true, recurses := true, named := ["internal/strconv.uint64pow10", "math/bits.deBruijn32tab", "math/bits.deBruijn64tab"], plainKeys := false, apart := false, laid := [("math/bits.deBruijn32tab", laid_math_bits_deBruijn32tab), ("math/bits.deBruijn64tab", laid_math_bits_deBruijn64tab), ("internal/strconv.uint64pow10", laid_internal_strconv_uint64pow10)] }
def GasGaugedSaid : Prop := gasGaugedRow.holds Tryz.pinned (OpenSpec.ofChange gasGaugedSpec)

/-- ITS FALSE NEIGHBOUR: 'it returns false'. Refute it at one input. -/
def gasGaugedWrong : ChangeSpec := { name := "gasGauged", fn := fun _ => fun
  | [d1, d2, d3, d4, d5, d6] => { results := [.lit (.bool false)], args := [d1, d2, d3, d4, d5, d6] }
  | _ => none }
def GasGaugedWrongFalsely : Prop := gasGaugedRow.holds Tryz.pinned (OpenSpec.ofChange gasGaugedWrong)

/-- 'bathyallaw02.GasLoads': WHATEVER THE INPUT: true; the input reads as it did. -/
def gasLoadsSpec : ChangeSpec := { name := "gasLoads", fn := fun _ => fun
  | [d1, d2, d3, d4] => { results := [.lit (.bool true)], args := [d1, d2, d3, d4] }
  | _ => none }
def gasLoadsRow : OpenClaim := { program := "ytahochgbkhpefaagreatdoor", sum := "d9efebcaefa3492ba52d1dd3abcb8e3b92c5bbd5241a3eef0670a7be203730fa", func := "bathyal/bathyallaw02.GasLoads", spec := "gasLoads", inPlace := ["internal/abi.NoEscape", "internal/bytealg.MakeNoZero"], unfollowed := true, recurses := true, named := ["internal/strconv.uint64pow10", "math/bits.deBruijn32tab", "math/bits.deBruijn64tab"], plainKeys := false, apart := false, laid := [("math/bits.deBruijn32tab", laid_math_bits_deBruijn32tab), ("math/bits.deBruijn64tab", laid_math_bits_deBruijn64tab), ("internal/strconv.uint64pow10", laid_internal_strconv_uint64pow10)] }
def GasLoadsSaid : Prop := gasLoadsRow.holds Tryz.pinned (OpenSpec.ofChange gasLoadsSpec)

/-- ITS FALSE NEIGHBOUR: 'it returns false'. Refute it at one input. -/
def gasLoadsWrong : ChangeSpec := { name := "gasLoads", fn := fun _ => fun
  | [d1, d2, d3, d4] => { results := [.lit (.bool false)], args := [d1, d2, d3, d4] }
  | _ => none }
def GasLoadsWrongFalsely : Prop := gasLoadsRow.holds Tryz.pinned (OpenSpec.ofChange gasLoadsWrong)

/-- 'bathyallaw02.GasSteady': WHATEVER THE INPUT: true; the input reads as it did. -/
def gasSteadySpec : ChangeSpec := { name := "gasSteady", fn := fun _ => fun
  | [d1, d2, d3, d4, d5, d6, d7] => { results := [.lit (.bool true)], args := [d1, d2, d3, d4, d5, d6, d7] }
  | _ => none }
def gasSteadyRow : OpenClaim := { program := "ytahochgbkhpefaagreatdoor", sum := "d9efebcaefa3492ba52d1dd3abcb8e3b92c5bbd5241a3eef0670a7be203730fa", func := "bathyal/bathyallaw02.GasSteady", spec := "gasSteady", inPlace := ["internal/abi.NoEscape", "internal/bytealg.MakeNoZero"], unfollowed := true, recurses := true, named := ["internal/strconv.uint64pow10", "math/bits.deBruijn32tab", "math/bits.deBruijn64tab"], plainKeys := false, apart := false, laid := [("math/bits.deBruijn32tab", laid_math_bits_deBruijn32tab), ("math/bits.deBruijn64tab", laid_math_bits_deBruijn64tab), ("internal/strconv.uint64pow10", laid_internal_strconv_uint64pow10)] }
def GasSteadySaid : Prop := gasSteadyRow.holds Tryz.pinned (OpenSpec.ofChange gasSteadySpec)

/-- ITS FALSE NEIGHBOUR: 'it returns false'. Refute it at one input. -/
def gasSteadyWrong : ChangeSpec := { name := "gasSteady", fn := fun _ => fun
  | [d1, d2, d3, d4, d5, d6, d7] => { results := [.lit (.bool false)], args := [d1, d2, d3, d4, d5, d6, d7] }
  | _ => none }
def GasSteadyWrongFalsely : Prop := gasSteadyRow.holds Tryz.pinned (OpenSpec.ofChange gasSteadyWrong)

/-- 'bathyallaw02.GasRuns': WHATEVER THE INPUT: true; the input reads as it did. -/
def gasRunsSpec : ChangeSpec := { name := "gasRuns", fn := fun _ => fun
  | [d1, d2, d3, d4] => { results := [.lit (.bool true)], args := [d1, d2, d3, d4] }
  | _ => none }
def gasRunsRow : OpenClaim := { program := "ytahochgbkhpefaagreatdoor", sum := "d9efebcaefa3492ba52d1dd3abcb8e3b92c5bbd5241a3eef0670a7be203730fa", func := "bathyal/bathyallaw02.GasRuns", spec := "gasRuns", inPlace := ["internal/abi.NoEscape", "internal/bytealg.MakeNoZero"], unfollowed := true, recurses := true, named := ["internal/strconv.uint64pow10", "math/bits.deBruijn32tab", "math/bits.deBruijn64tab"], plainKeys := false, apart := false, laid := [("math/bits.deBruijn32tab", laid_math_bits_deBruijn32tab), ("math/bits.deBruijn64tab", laid_math_bits_deBruijn64tab), ("internal/strconv.uint64pow10", laid_internal_strconv_uint64pow10)] }
def GasRunsSaid : Prop := gasRunsRow.holds Tryz.pinned (OpenSpec.ofChange gasRunsSpec)

/-- ITS FALSE NEIGHBOUR: 'it returns false'. Refute it at one input. -/
def gasRunsWrong : ChangeSpec := { name := "gasRuns", fn := fun _ => fun
  | [d1, d2, d3, d4] => { results := [.lit (.bool false)], args := [d1, d2, d3, d4] }
  | _ => none }
def GasRunsWrongFalsely : Prop := gasRunsRow.holds Tryz.pinned (OpenSpec.ofChange gasRunsWrong)

/-- 'bathyallaw02.GasKnowns': WHATEVER THE INPUT: true; the input reads as it did. -/
def gasKnownsSpec : ChangeSpec := { name := "gasKnowns", fn := fun _ => fun
  | [d1, d2, d3] => { results := [.lit (.bool true)], args := [d1, d2, d3] }
  | _ => none }
def gasKnownsRow : OpenClaim := { program := "ytahochgbkhpefaagreatdoor", sum := "d9efebcaefa3492ba52d1dd3abcb8e3b92c5bbd5241a3eef0670a7be203730fa", func := "bathyal/bathyallaw02.GasKnowns", spec := "gasKnowns", inPlace := ["internal/abi.NoEscape", "internal/bytealg.MakeNoZero"], unfollowed := true, recurses := true, named := ["internal/strconv.uint64pow10", "math/bits.deBruijn32tab", "math/bits.deBruijn64tab"], plainKeys := false, apart := false, laid := [("math/bits.deBruijn32tab", laid_math_bits_deBruijn32tab), ("math/bits.deBruijn64tab", laid_math_bits_deBruijn64tab), ("internal/strconv.uint64pow10", laid_internal_strconv_uint64pow10)] }
def GasKnownsSaid : Prop := gasKnownsRow.holds Tryz.pinned (OpenSpec.ofChange gasKnownsSpec)

/-- ITS FALSE NEIGHBOUR: 'it returns false'. Refute it at one input. -/
def gasKnownsWrong : ChangeSpec := { name := "gasKnowns", fn := fun _ => fun
  | [d1, d2, d3] => { results := [.lit (.bool false)], args := [d1, d2, d3] }
  | _ => none }
def GasKnownsWrongFalsely : Prop := gasKnownsRow.holds Tryz.pinned (OpenSpec.ofChange gasKnownsWrong)

/-- 'bathyallaw02.GasTrue': WHATEVER THE INPUT: true; the input reads as it did. -/
def gasTrueSpec : ChangeSpec := { name := "gasTrue", fn := fun _ => fun
  | [d1, d2, d3, d4] => { results := [.lit (.bool true)], args := [d1, d2, d3, d4] }
  | _ => none }
def gasTrueRow : OpenClaim := { program := "ytahochgbkhpefaagreatdoor", sum := "d9efebcaefa3492ba52d1dd3abcb8e3b92c5bbd5241a3eef0670a7be203730fa", func := "bathyal/bathyallaw02.GasTrue", spec := "gasTrue", inPlace := ["internal/abi.NoEscape", "internal/bytealg.MakeNoZero"], unfollowed := true, recurses := true, named := ["internal/strconv.uint64pow10", "math/bits.deBruijn32tab", "math/bits.deBruijn64tab"], plainKeys := false, apart := false, laid := [("math/bits.deBruijn32tab", laid_math_bits_deBruijn32tab), ("math/bits.deBruijn64tab", laid_math_bits_deBruijn64tab), ("internal/strconv.uint64pow10", laid_internal_strconv_uint64pow10)] }
def GasTrueSaid : Prop := gasTrueRow.holds Tryz.pinned (OpenSpec.ofChange gasTrueSpec)

/-- ITS FALSE NEIGHBOUR: 'it returns false'. Refute it at one input. -/
def gasTrueWrong : ChangeSpec := { name := "gasTrue", fn := fun _ => fun
  | [d1, d2, d3, d4] => { results := [.lit (.bool false)], args := [d1, d2, d3, d4] }
  | _ => none }
def GasTrueWrongFalsely : Prop := gasTrueRow.holds Tryz.pinned (OpenSpec.ofChange gasTrueWrong)

/-- 'bathyallaw02.GasEnds': WHATEVER THE INPUT: true; the input reads as it did. -/
def gasEndsSpec : ChangeSpec := { name := "gasEnds", fn := fun _ => fun
  | [d1, d2, d3] => { results := [.lit (.bool true)], args := [d1, d2, d3] }
  | _ => none }
def gasEndsRow : OpenClaim := { program := "ytahochgbkhpefaagreatdoor", sum := "d9efebcaefa3492ba52d1dd3abcb8e3b92c5bbd5241a3eef0670a7be203730fa", func := "bathyal/bathyallaw02.GasEnds", spec := "gasEnds", inPlace := ["internal/abi.NoEscape", "internal/bytealg.MakeNoZero"], unfollowed := true, recurses := true, named := ["internal/strconv.uint64pow10", "math/bits.deBruijn32tab", "math/bits.deBruijn64tab"], plainKeys := false, apart := false, laid := [("math/bits.deBruijn32tab", laid_math_bits_deBruijn32tab), ("math/bits.deBruijn64tab", laid_math_bits_deBruijn64tab), ("internal/strconv.uint64pow10", laid_internal_strconv_uint64pow10)] }
def GasEndsSaid : Prop := gasEndsRow.holds Tryz.pinned (OpenSpec.ofChange gasEndsSpec)

/-- ITS FALSE NEIGHBOUR: 'it returns false'. Refute it at one input. -/
def gasEndsWrong : ChangeSpec := { name := "gasEnds", fn := fun _ => fun
  | [d1, d2, d3] => { results := [.lit (.bool false)], args := [d1, d2, d3] }
  | _ => none }
def GasEndsWrongFalsely : Prop := gasEndsRow.holds Tryz.pinned (OpenSpec.ofChange gasEndsWrong)

/-- 'bathyallaw02.GasSures': WHATEVER THE INPUT: true; the input reads as it did. -/
def gasSuresSpec : ChangeSpec := { name := "gasSures", fn := fun _ => fun
  | [d1, d2, d3] => { results := [.lit (.bool true)], args := [d1, d2, d3] }
  | _ => none }
def gasSuresRow : OpenClaim := { program := "ytahochgbkhpefaagreatdoor", sum := "d9efebcaefa3492ba52d1dd3abcb8e3b92c5bbd5241a3eef0670a7be203730fa", func := "bathyal/bathyallaw02.GasSures", spec := "gasSures", inPlace := ["internal/abi.NoEscape", "internal/bytealg.MakeNoZero"], unfollowed := true, recurses := true, named := ["internal/strconv.uint64pow10", "math/bits.deBruijn32tab", "math/bits.deBruijn64tab"], plainKeys := false, apart := false, laid := [("math/bits.deBruijn32tab", laid_math_bits_deBruijn32tab), ("math/bits.deBruijn64tab", laid_math_bits_deBruijn64tab), ("internal/strconv.uint64pow10", laid_internal_strconv_uint64pow10)] }
def GasSuresSaid : Prop := gasSuresRow.holds Tryz.pinned (OpenSpec.ofChange gasSuresSpec)

/-- ITS FALSE NEIGHBOUR: 'it returns false'. Refute it at one input. -/
def gasSuresWrong : ChangeSpec := { name := "gasSures", fn := fun _ => fun
  | [d1, d2, d3] => { results := [.lit (.bool false)], args := [d1, d2, d3] }
  | _ => none }
def GasSuresWrongFalsely : Prop := gasSuresRow.holds Tryz.pinned (OpenSpec.ofChange gasSuresWrong)

/-- 'bathyallaw02.GasLimits': WHATEVER THE INPUT: true; the input reads as it did. -/
def gasLimitsSpec : ChangeSpec := { name := "gasLimits", fn := fun _ => fun
  | [d1, d2, d3] => { results := [.lit (.bool true)], args := [d1, d2, d3] }
  | _ => none }
def gasLimitsRow : OpenClaim := { program := "ytahochgbkhpefaagreatdoor", sum := "d9efebcaefa3492ba52d1dd3abcb8e3b92c5bbd5241a3eef0670a7be203730fa", func := "bathyal/bathyallaw02.GasLimits", spec := "gasLimits", inPlace := ["internal/abi.NoEscape", "internal/bytealg.MakeNoZero"], unfollowed := true, recurses := true, named := ["internal/strconv.uint64pow10", "math/bits.deBruijn32tab", "math/bits.deBruijn64tab"], plainKeys := false, apart := false, laid := [("math/bits.deBruijn32tab", laid_math_bits_deBruijn32tab), ("math/bits.deBruijn64tab", laid_math_bits_deBruijn64tab), ("internal/strconv.uint64pow10", laid_internal_strconv_uint64pow10)] }
def GasLimitsSaid : Prop := gasLimitsRow.holds Tryz.pinned (OpenSpec.ofChange gasLimitsSpec)

/-- ITS FALSE NEIGHBOUR: 'it returns false'. Refute it at one input. -/
def gasLimitsWrong : ChangeSpec := { name := "gasLimits", fn := fun _ => fun
  | [d1, d2, d3] => { results := [.lit (.bool false)], args := [d1, d2, d3] }
  | _ => none }
def GasLimitsWrongFalsely : Prop := gasLimitsRow.holds Tryz.pinned (OpenSpec.ofChange gasLimitsWrong)

/-- 'bathyallaw02.GasStays': WHATEVER THE INPUT: true; the input reads as it did. -/
def gasStaysSpec : ChangeSpec := { name := "gasStays", fn := fun _ => fun
  | [d1, d2, d3, d4, d5, d6] => { results := [.lit (.bool true)], args := [d1, d2, d3, d4, d5, d6] }
  | _ => none }
def gasStaysRow : OpenClaim := { program := "ytahochgbkhpefaagreatdoor", sum := "d9efebcaefa3492ba52d1dd3abcb8e3b92c5bbd5241a3eef0670a7be203730fa", func := "bathyal/bathyallaw02.GasStays", spec := "gasStays", inPlace := ["internal/abi.NoEscape", "internal/bytealg.MakeNoZero"], unfollowed := true, recurses := true, named := ["internal/strconv.uint64pow10", "math/bits.deBruijn32tab", "math/bits.deBruijn64tab"], plainKeys := false, apart := false, laid := [("math/bits.deBruijn32tab", laid_math_bits_deBruijn32tab), ("math/bits.deBruijn64tab", laid_math_bits_deBruijn64tab), ("internal/strconv.uint64pow10", laid_internal_strconv_uint64pow10)] }
def GasStaysSaid : Prop := gasStaysRow.holds Tryz.pinned (OpenSpec.ofChange gasStaysSpec)

/-- ITS FALSE NEIGHBOUR: 'it returns false'. Refute it at one input. -/
def gasStaysWrong : ChangeSpec := { name := "gasStays", fn := fun _ => fun
  | [d1, d2, d3, d4, d5, d6] => { results := [.lit (.bool false)], args := [d1, d2, d3, d4, d5, d6] }
  | _ => none }
def GasStaysWrongFalsely : Prop := gasStaysRow.holds Tryz.pinned (OpenSpec.ofChange gasStaysWrong)

/-- 'bathyallaw02.GasStops': WHATEVER THE INPUT: true; the input reads as it did. -/
def gasStopsSpec : ChangeSpec := { name := "gasStops", fn := fun _ => fun
  | [d1, d2, d3, d4] => { results := [.lit (.bool true)], args := [d1, d2, d3, d4] }
  | _ => none }
def gasStopsRow : OpenClaim := { program := "ytahochgbkhpefaagreatdoor", sum := "d9efebcaefa3492ba52d1dd3abcb8e3b92c5bbd5241a3eef0670a7be203730fa", func := "bathyal/bathyallaw02.GasStops", spec := "gasStops", inPlace := ["internal/abi.NoEscape", "internal/bytealg.MakeNoZero"], unfollowed := true, recurses := true, named := ["internal/strconv.uint64pow10", "math/bits.deBruijn32tab", "math/bits.deBruijn64tab"], plainKeys := false, apart := false, laid := [("math/bits.deBruijn32tab", laid_math_bits_deBruijn32tab), ("math/bits.deBruijn64tab", laid_math_bits_deBruijn64tab), ("internal/strconv.uint64pow10", laid_internal_strconv_uint64pow10)] }
def GasStopsSaid : Prop := gasStopsRow.holds Tryz.pinned (OpenSpec.ofChange gasStopsSpec)

/-- ITS FALSE NEIGHBOUR: 'it returns false'. Refute it at one input. -/
def gasStopsWrong : ChangeSpec := { name := "gasStops", fn := fun _ => fun
  | [d1, d2, d3, d4] => { results := [.lit (.bool false)], args := [d1, d2, d3, d4] }
  | _ => none }
def GasStopsWrongFalsely : Prop := gasStopsRow.holds Tryz.pinned (OpenSpec.ofChange gasStopsWrong)

/- THE SECOND FORM. 'bulk': how many values and letters a reading holds, each counted each time it is reached (what is shared counts as often as it is met; a slice's spare places count too). A statement '..UptoSaid' is the law's where the arguments, and the package variables that the reading takes, are together of bulk at most 1048576: NARROWER than '..Said'. Prove '..Said' where nothing that the law and all that it calls make is longer than what came in: it says more and counts as full. Else prove '..UptoSaid'. A law counts once. -/
mutual
def uptoBulk {H : Type} : DataW H → Nat
  | .lit (.string bytes) => bytes.length + 1
  | .lit _ => 1
  | .nil => 1
  | .ptr d => uptoBulk d + 1
  | .slice elems spare => uptoBulkAll elems + uptoBulkAll spare + 1
  | .agg parts => uptoBulkAll parts + 1
  | .iface _ d => uptoBulk d + 1
  | .map entries => uptoBulkEntries entries + 1
  | .held _ => 1
def uptoBulkAll {H : Type} : List (DataW H) → Nat
  | [] => 0
  | d :: r => uptoBulk d + uptoBulkAll r
def uptoBulkEntries {H : Type} : List (Lit × DataW H) → Nat
  | [] => 0
  | x :: r => uptoBulkEntry x + uptoBulkEntries r
def uptoBulkEntry {H : Type} : Lit × DataW H → Nat
  | (.string bytes, d) => bytes.length + uptoBulk d + 1
  | (_, d) => uptoBulk d + 1
 end
def uptoSmall : (H : Type) → List (DataW H) → Bool := fun _ ds => decide (uptoBulkAll ds ≤ 1048576)
def OpenSpec.upto (s : _root_.Go.ChangeSpec) : _root_.Go.OpenSpec := { _root_.Go.OpenSpec.ofChange s with cond := some uptoSmall }

/-- 'bathyallaw02.GasGauges', WHERE WHAT IT READS IS OF BULK AT MOST 1048576: true; the input reads as it did. -/
def gasGaugesUptoRow : OpenClaim := { program := "ytahochgbkhpefaagreatdoor", sum := "d9efebcaefa3492ba52d1dd3abcb8e3b92c5bbd5241a3eef0670a7be203730fa", func := "bathyal/bathyallaw02.GasGauges", spec := "gasGauges", inPlace := ["internal/abi.NoEscape", "internal/bytealg.MakeNoZero"], unfollowed := true, recurses := true, named := ["internal/strconv.uint64pow10", "math/bits.deBruijn32tab", "math/bits.deBruijn64tab"], plainKeys := false, apart := false, laid := [("math/bits.deBruijn32tab", laid_math_bits_deBruijn32tab), ("math/bits.deBruijn64tab", laid_math_bits_deBruijn64tab), ("internal/strconv.uint64pow10", laid_internal_strconv_uint64pow10)], narrowed := true }
def GasGaugesUptoSaid : Prop := gasGaugesUptoRow.holds Tryz.pinned (OpenSpec.upto gasGaugesSpec)

/-- 'bathyallaw02.GasGauged', WHERE WHAT IT READS IS OF BULK AT MOST 1048576: true; the input reads as it did. -/
def gasGaugedUptoRow : OpenClaim := { program := "ytahochgbkhpefaagreatdoor", sum := "d9efebcaefa3492ba52d1dd3abcb8e3b92c5bbd5241a3eef0670a7be203730fa", func := "bathyal/bathyallaw02.GasGauged", spec := "gasGauged", inPlace := ["internal/abi.NoEscape", "internal/bytealg.MakeNoZero"], unfollowed := true, recurses := true, named := ["internal/strconv.uint64pow10", "math/bits.deBruijn32tab", "math/bits.deBruijn64tab"], plainKeys := false, apart := false, laid := [("math/bits.deBruijn32tab", laid_math_bits_deBruijn32tab), ("math/bits.deBruijn64tab", laid_math_bits_deBruijn64tab), ("internal/strconv.uint64pow10", laid_internal_strconv_uint64pow10)], narrowed := true }
def GasGaugedUptoSaid : Prop := gasGaugedUptoRow.holds Tryz.pinned (OpenSpec.upto gasGaugedSpec)

/-- 'bathyallaw02.GasLoads', WHERE WHAT IT READS IS OF BULK AT MOST 1048576: true; the input reads as it did. -/
def gasLoadsUptoRow : OpenClaim := { program := "ytahochgbkhpefaagreatdoor", sum := "d9efebcaefa3492ba52d1dd3abcb8e3b92c5bbd5241a3eef0670a7be203730fa", func := "bathyal/bathyallaw02.GasLoads", spec := "gasLoads", inPlace := ["internal/abi.NoEscape", "internal/bytealg.MakeNoZero"], unfollowed := true, recurses := true, named := ["internal/strconv.uint64pow10", "math/bits.deBruijn32tab", "math/bits.deBruijn64tab"], plainKeys := false, apart := false, laid := [("math/bits.deBruijn32tab", laid_math_bits_deBruijn32tab), ("math/bits.deBruijn64tab", laid_math_bits_deBruijn64tab), ("internal/strconv.uint64pow10", laid_internal_strconv_uint64pow10)], narrowed := true }
def GasLoadsUptoSaid : Prop := gasLoadsUptoRow.holds Tryz.pinned (OpenSpec.upto gasLoadsSpec)

/-- 'bathyallaw02.GasSteady', WHERE WHAT IT READS IS OF BULK AT MOST 1048576: true; the input reads as it did. -/
def gasSteadyUptoRow : OpenClaim := { program := "ytahochgbkhpefaagreatdoor", sum := "d9efebcaefa3492ba52d1dd3abcb8e3b92c5bbd5241a3eef0670a7be203730fa", func := "bathyal/bathyallaw02.GasSteady", spec := "gasSteady", inPlace := ["internal/abi.NoEscape", "internal/bytealg.MakeNoZero"], unfollowed := true, recurses := true, named := ["internal/strconv.uint64pow10", "math/bits.deBruijn32tab", "math/bits.deBruijn64tab"], plainKeys := false, apart := false, laid := [("math/bits.deBruijn32tab", laid_math_bits_deBruijn32tab), ("math/bits.deBruijn64tab", laid_math_bits_deBruijn64tab), ("internal/strconv.uint64pow10", laid_internal_strconv_uint64pow10)], narrowed := true }
def GasSteadyUptoSaid : Prop := gasSteadyUptoRow.holds Tryz.pinned (OpenSpec.upto gasSteadySpec)

/-- 'bathyallaw02.GasRuns', WHERE WHAT IT READS IS OF BULK AT MOST 1048576: true; the input reads as it did. -/
def gasRunsUptoRow : OpenClaim := { program := "ytahochgbkhpefaagreatdoor", sum := "d9efebcaefa3492ba52d1dd3abcb8e3b92c5bbd5241a3eef0670a7be203730fa", func := "bathyal/bathyallaw02.GasRuns", spec := "gasRuns", inPlace := ["internal/abi.NoEscape", "internal/bytealg.MakeNoZero"], unfollowed := true, recurses := true, named := ["internal/strconv.uint64pow10", "math/bits.deBruijn32tab", "math/bits.deBruijn64tab"], plainKeys := false, apart := false, laid := [("math/bits.deBruijn32tab", laid_math_bits_deBruijn32tab), ("math/bits.deBruijn64tab", laid_math_bits_deBruijn64tab), ("internal/strconv.uint64pow10", laid_internal_strconv_uint64pow10)], narrowed := true }
def GasRunsUptoSaid : Prop := gasRunsUptoRow.holds Tryz.pinned (OpenSpec.upto gasRunsSpec)

/-- 'bathyallaw02.GasKnowns', WHERE WHAT IT READS IS OF BULK AT MOST 1048576: true; the input reads as it did. -/
def gasKnownsUptoRow : OpenClaim := { program := "ytahochgbkhpefaagreatdoor", sum := "d9efebcaefa3492ba52d1dd3abcb8e3b92c5bbd5241a3eef0670a7be203730fa", func := "bathyal/bathyallaw02.GasKnowns", spec := "gasKnowns", inPlace := ["internal/abi.NoEscape", "internal/bytealg.MakeNoZero"], unfollowed := true, recurses := true, named := ["internal/strconv.uint64pow10", "math/bits.deBruijn32tab", "math/bits.deBruijn64tab"], plainKeys := false, apart := false, laid := [("math/bits.deBruijn32tab", laid_math_bits_deBruijn32tab), ("math/bits.deBruijn64tab", laid_math_bits_deBruijn64tab), ("internal/strconv.uint64pow10", laid_internal_strconv_uint64pow10)], narrowed := true }
def GasKnownsUptoSaid : Prop := gasKnownsUptoRow.holds Tryz.pinned (OpenSpec.upto gasKnownsSpec)

/-- 'bathyallaw02.GasTrue', WHERE WHAT IT READS IS OF BULK AT MOST 1048576: true; the input reads as it did. -/
def gasTrueUptoRow : OpenClaim := { program := "ytahochgbkhpefaagreatdoor", sum := "d9efebcaefa3492ba52d1dd3abcb8e3b92c5bbd5241a3eef0670a7be203730fa", func := "bathyal/bathyallaw02.GasTrue", spec := "gasTrue", inPlace := ["internal/abi.NoEscape", "internal/bytealg.MakeNoZero"], unfollowed := true, recurses := true, named := ["internal/strconv.uint64pow10", "math/bits.deBruijn32tab", "math/bits.deBruijn64tab"], plainKeys := false, apart := false, laid := [("math/bits.deBruijn32tab", laid_math_bits_deBruijn32tab), ("math/bits.deBruijn64tab", laid_math_bits_deBruijn64tab), ("internal/strconv.uint64pow10", laid_internal_strconv_uint64pow10)], narrowed := true }
def GasTrueUptoSaid : Prop := gasTrueUptoRow.holds Tryz.pinned (OpenSpec.upto gasTrueSpec)

/-- 'bathyallaw02.GasEnds', WHERE WHAT IT READS IS OF BULK AT MOST 1048576: true; the input reads as it did. -/
def gasEndsUptoRow : OpenClaim := { program := "ytahochgbkhpefaagreatdoor", sum := "d9efebcaefa3492ba52d1dd3abcb8e3b92c5bbd5241a3eef0670a7be203730fa", func := "bathyal/bathyallaw02.GasEnds", spec := "gasEnds", inPlace := ["internal/abi.NoEscape", "internal/bytealg.MakeNoZero"], unfollowed := true, recurses := true, named := ["internal/strconv.uint64pow10", "math/bits.deBruijn32tab", "math/bits.deBruijn64tab"], plainKeys := false, apart := false, laid := [("math/bits.deBruijn32tab", laid_math_bits_deBruijn32tab), ("math/bits.deBruijn64tab", laid_math_bits_deBruijn64tab), ("internal/strconv.uint64pow10", laid_internal_strconv_uint64pow10)], narrowed := true }
def GasEndsUptoSaid : Prop := gasEndsUptoRow.holds Tryz.pinned (OpenSpec.upto gasEndsSpec)

/-- 'bathyallaw02.GasSures', WHERE WHAT IT READS IS OF BULK AT MOST 1048576: true; the input reads as it did. -/
def gasSuresUptoRow : OpenClaim := { program := "ytahochgbkhpefaagreatdoor", sum := "d9efebcaefa3492ba52d1dd3abcb8e3b92c5bbd5241a3eef0670a7be203730fa", func := "bathyal/bathyallaw02.GasSures", spec := "gasSures", inPlace := ["internal/abi.NoEscape", "internal/bytealg.MakeNoZero"], unfollowed := true, recurses := true, named := ["internal/strconv.uint64pow10", "math/bits.deBruijn32tab", "math/bits.deBruijn64tab"], plainKeys := false, apart := false, laid := [("math/bits.deBruijn32tab", laid_math_bits_deBruijn32tab), ("math/bits.deBruijn64tab", laid_math_bits_deBruijn64tab), ("internal/strconv.uint64pow10", laid_internal_strconv_uint64pow10)], narrowed := true }
def GasSuresUptoSaid : Prop := gasSuresUptoRow.holds Tryz.pinned (OpenSpec.upto gasSuresSpec)

/-- 'bathyallaw02.GasLimits', WHERE WHAT IT READS IS OF BULK AT MOST 1048576: true; the input reads as it did. -/
def gasLimitsUptoRow : OpenClaim := { program := "ytahochgbkhpefaagreatdoor", sum := "d9efebcaefa3492ba52d1dd3abcb8e3b92c5bbd5241a3eef0670a7be203730fa", func := "bathyal/bathyallaw02.GasLimits", spec := "gasLimits", inPlace := ["internal/abi.NoEscape", "internal/bytealg.MakeNoZero"], unfollowed := true, recurses := true, named := ["internal/strconv.uint64pow10", "math/bits.deBruijn32tab", "math/bits.deBruijn64tab"], plainKeys := false, apart := false, laid := [("math/bits.deBruijn32tab", laid_math_bits_deBruijn32tab), ("math/bits.deBruijn64tab", laid_math_bits_deBruijn64tab), ("internal/strconv.uint64pow10", laid_internal_strconv_uint64pow10)], narrowed := true }
def GasLimitsUptoSaid : Prop := gasLimitsUptoRow.holds Tryz.pinned (OpenSpec.upto gasLimitsSpec)

/-- 'bathyallaw02.GasStays', WHERE WHAT IT READS IS OF BULK AT MOST 1048576: true; the input reads as it did. -/
def gasStaysUptoRow : OpenClaim := { program := "ytahochgbkhpefaagreatdoor", sum := "d9efebcaefa3492ba52d1dd3abcb8e3b92c5bbd5241a3eef0670a7be203730fa", func := "bathyal/bathyallaw02.GasStays", spec := "gasStays", inPlace := ["internal/abi.NoEscape", "internal/bytealg.MakeNoZero"], unfollowed := true, recurses := true, named := ["internal/strconv.uint64pow10", "math/bits.deBruijn32tab", "math/bits.deBruijn64tab"], plainKeys := false, apart := false, laid := [("math/bits.deBruijn32tab", laid_math_bits_deBruijn32tab), ("math/bits.deBruijn64tab", laid_math_bits_deBruijn64tab), ("internal/strconv.uint64pow10", laid_internal_strconv_uint64pow10)], narrowed := true }
def GasStaysUptoSaid : Prop := gasStaysUptoRow.holds Tryz.pinned (OpenSpec.upto gasStaysSpec)

/-- 'bathyallaw02.GasStops', WHERE WHAT IT READS IS OF BULK AT MOST 1048576: true; the input reads as it did. -/
def gasStopsUptoRow : OpenClaim := { program := "ytahochgbkhpefaagreatdoor", sum := "d9efebcaefa3492ba52d1dd3abcb8e3b92c5bbd5241a3eef0670a7be203730fa", func := "bathyal/bathyallaw02.GasStops", spec := "gasStops", inPlace := ["internal/abi.NoEscape", "internal/bytealg.MakeNoZero"], unfollowed := true, recurses := true, named := ["internal/strconv.uint64pow10", "math/bits.deBruijn32tab", "math/bits.deBruijn64tab"], plainKeys := false, apart := false, laid := [("math/bits.deBruijn32tab", laid_math_bits_deBruijn32tab), ("math/bits.deBruijn64tab", laid_math_bits_deBruijn64tab), ("internal/strconv.uint64pow10", laid_internal_strconv_uint64pow10)], narrowed := true }
def GasStopsUptoSaid : Prop := gasStopsUptoRow.holds Tryz.pinned (OpenSpec.upto gasStopsSpec)

end Rows
end Go.Proofs.YtahochgbkhpefaaGreatDoor
