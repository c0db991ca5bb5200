/-
  Facts of the whole program that each claim of this seat asks.
-/
import Derived.Test.YtplhaohcmhepbaaGreatDoorRows
import Derived.Test.YtplhaohcmhepbaaGreatDoorChecked
import Derived.ProofKit
import Derived.OpenShut
import Derived.LaidMore
import Derived.Stop.Joined
import Derived.SevenTiedAt
import Derived.Carry
import Derived.KernelRfl
namespace Go.Proofs.YtplhaohcmhepbaaGreatDoor
open Go.ChangeShapes Go.WideShapes Go.ChangeAt Go.RowKit Go.Proofs
theorem f_laid : laidOutB Tryz.prog = true := by kernel_rfl
theorem f_rowed : mapsRowed Tryz.prog = true := by kernel_rfl
theorem f_keys : Tryz.prog.plainKeys = Rows.shareClaimsRow.plainKeys := by kernel_rfl
theorem f_heard : Tryz.prog.stopsHeard = true := by kernel_rfl
theorem f_enter : Tryz.prog.mayEnter = true := by kernel_rfl
theorem f_lift : Tryz.prog.liftsFinal = Rows.shareClaimsRow.lifted := by kernel_rfl
theorem f_make : Tryz.prog.make = some Rows.shareClaimsRow.make := by kernel_rfl
theorem f_own : ownKnob Tryz.prog.godebug = none := by kernel_rfl
end Go.Proofs.YtplhaohcmhepbaaGreatDoor
