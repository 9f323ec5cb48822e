/- Closed facts of the row of FnExactLogMend. -/
import Derived.Test.YtbckbfjnifafaaaGreatDoorRows
import Derived.Test.YtbckbfjnifafaaaGreatDoorTie
import Derived.Test.YtbckbfjnifafaaaGreatDoorCards
import Derived.WalkKit
import Derived.ProofKit
import Derived.OpenShut
import Derived.ShutString
import Derived.Below
import Derived.Lib.SmallJoins
import Derived.LaidMore
import Derived.Leaving
import Derived.Lay
import Derived.Conc.Holds
import Derived.Stop.Joined
import Derived.SevenTiedAt
namespace Go.Proofs.YtbckbfjnifafaaaGreatDoor.fnExactLogMend
open Go.ChangeShapes Go.WideShapes Go.ChangeAt Go.RowKit Go.Joins
set_option linter.unusedVariables false
theorem c_wf : Rows.fnExactLogMendRow.wf (OpenSpec.ofChange Rows.fnExactLogMendSpec) = true := by kernel_rfl
theorem c_lo : laidOutB Tryz.prog = true := by kernel_rfl
theorem c_mr : mapsRowed Tryz.prog = true := by kernel_rfl
theorem c_ip : (Rows.fnExactLogMendRow.inPlace == Tryz.prog.inPlace 6) = true := by kernel_rfl
theorem c_uf : (Rows.fnExactLogMendRow.unfollowed == Tryz.prog.unfollowed 6) = true := by kernel_rfl
theorem c_rc : (Rows.fnExactLogMendRow.recurses == Tryz.prog.recurses 6) = true := by kernel_rfl
theorem c_vn : (Rows.fnExactLogMendRow.named == Tryz.prog.varsNamed 6) = true := by kernel_rfl
theorem c_pk : (Rows.fnExactLogMendRow.plainKeys == Tryz.prog.plainKeys) = true := by kernel_rfl
theorem c_sh : Tryz.prog.stopsHeard = true := by kernel_rfl
theorem c_me : Tryz.prog.mayEnter = true := by kernel_rfl
theorem c_lf : (Rows.fnExactLogMendRow.lifted == Tryz.prog.liftsFinal) = true := by kernel_rfl
theorem closed : joinedFacts Tryz.prog 6 Tryz.f6 Rows.fnExactLogMendSpec Rows.fnExactLogMendRow = true := by
  unfold joinedFacts
  rw [c_wf, c_lo, c_mr, c_ip, c_uf, c_rc, c_vn, c_pk, c_sh, c_me, c_lf]
  kernel_rfl
end Go.Proofs.YtbckbfjnifafaaaGreatDoor.fnExactLogMend
