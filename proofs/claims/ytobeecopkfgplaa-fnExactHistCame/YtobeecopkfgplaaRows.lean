/-
  No cell of these rows narrows 'for every input' (looked for: loops, veiled, ifaces, maps, wideKeys, modest, calm, conditions, laid).
  DERIVED. THE GIVEN ROWS OF THIS SEAT. 6 by the template 'for every input the law returns true; each argument reads behind the call as it read before'; 0 by the template 'total and deterministic' (their statements: YtobeecopkfgplaaTotals.lean).
  GIVEN WITH THE SEED: the statements are not yours to turn. If you find one false, say at which input.
  Laid BY PROGRAM, IN A SANDBOX (cutbox-rows.mjs): the forced cells as the released guide's own fill.sh prints them over the translation 1e33ebeea39b5b96… (all of the seat's roots in one cut). By AI agents, Wed Nov 11 2026. No macro, syntax, notation, axiom, sorry.
-/
import Derived.Test.YtobeecopkfgplaaChecked
import GoSem.Claim
import GoSem.ClaimJoined
import GoSem.ClaimMapViews
import Derived.JoinedTies
import Derived.KernelRfl
namespace Go.Proofs.Ytobeecopkfgplaa
/- THE CELL 'sum', in the pinned program and in every row, IS THE sha256 OF THE DUMP (.gsa) THAT YtobeecopkfgplaaProg.lean LOADS. Nothing in Lean hashes anything: it is a label: what it is worth is what the hold of that sum in a sandbox is worth. -/
noncomputable def Try.pinned : Pinned := { name := "ytobeecopkfgplaa", sum := "1e33ebeea39b5b968fdef95998417e2e90328826547323472da15c91e8806b70", checked := Try.checked }
namespace Rows
def none {H : Type} : Left H := { results := [], args := [] }

/-- 'laws.FnExactHistOk': WHATEVER THE INPUT: true; the input reads as it did. -/
def fnExactHistOkSpec : ChangeSpec := { name := "fnExactHistOk", fn := fun _ => fun
  | [d] => { results := [.lit (.bool true)], args := [d] }
  | _ => none }
def fnExactHistOkRow : OpenClaim := { program := "ytobeecopkfgplaa", sum := "1e33ebeea39b5b968fdef95998417e2e90328826547323472da15c91e8806b70", func := "loop.example/backstitch/laws.FnExactHistOk", spec := "fnExactHistOk", inPlace := ["internal/bytealg.IndexByteString"], unfollowed := true, recurses := true, apart := false }
def FnExactHistOkSaid : Prop := fnExactHistOkRow.holds Try.pinned (OpenSpec.ofChange fnExactHistOkSpec)

/-- ITS FALSE NEIGHBOUR: 'it returns false'. Refute it at one input. -/
def fnExactHistOkWrong : ChangeSpec := { name := "fnExactHistOk", fn := fun _ => fun
  | [d] => { results := [.lit (.bool false)], args := [d] }
  | _ => none }
def FnExactHistOkWrongFalsely : Prop := fnExactHistOkRow.holds Try.pinned (OpenSpec.ofChange fnExactHistOkWrong)

/-- 'laws.FnExactHistOpen': WHATEVER THE INPUT: true; the input reads as it did. -/
def fnExactHistOpenSpec : ChangeSpec := { name := "fnExactHistOpen", fn := fun _ => fun
  | [d] => { results := [.lit (.bool true)], args := [d] }
  | _ => none }
def fnExactHistOpenRow : OpenClaim := { program := "ytobeecopkfgplaa", sum := "1e33ebeea39b5b968fdef95998417e2e90328826547323472da15c91e8806b70", func := "loop.example/backstitch/laws.FnExactHistOpen", spec := "fnExactHistOpen", inPlace := ["internal/bytealg.IndexByteString"], unfollowed := true, recurses := true, apart := false }
def FnExactHistOpenSaid : Prop := fnExactHistOpenRow.holds Try.pinned (OpenSpec.ofChange fnExactHistOpenSpec)

/-- ITS FALSE NEIGHBOUR: 'it returns false'. Refute it at one input. -/
def fnExactHistOpenWrong : ChangeSpec := { name := "fnExactHistOpen", fn := fun _ => fun
  | [d] => { results := [.lit (.bool false)], args := [d] }
  | _ => none }
def FnExactHistOpenWrongFalsely : Prop := fnExactHistOpenRow.holds Try.pinned (OpenSpec.ofChange fnExactHistOpenWrong)

/-- 'laws.FnExactHistNews': WHATEVER THE INPUT: true; the input reads as it did. -/
def fnExactHistNewsSpec : ChangeSpec := { name := "fnExactHistNews", fn := fun _ => fun
  | [d] => { results := [.lit (.bool true)], args := [d] }
  | _ => none }
def fnExactHistNewsRow : OpenClaim := { program := "ytobeecopkfgplaa", sum := "1e33ebeea39b5b968fdef95998417e2e90328826547323472da15c91e8806b70", func := "loop.example/backstitch/laws.FnExactHistNews", spec := "fnExactHistNews", inPlace := ["internal/bytealg.IndexByteString"], unfollowed := true, recurses := true, apart := false }
def FnExactHistNewsSaid : Prop := fnExactHistNewsRow.holds Try.pinned (OpenSpec.ofChange fnExactHistNewsSpec)

/-- ITS FALSE NEIGHBOUR: 'it returns false'. Refute it at one input. -/
def fnExactHistNewsWrong : ChangeSpec := { name := "fnExactHistNews", fn := fun _ => fun
  | [d] => { results := [.lit (.bool false)], args := [d] }
  | _ => none }
def FnExactHistNewsWrongFalsely : Prop := fnExactHistNewsRow.holds Try.pinned (OpenSpec.ofChange fnExactHistNewsWrong)

/-- 'laws.FnExactHistTasks': WHATEVER THE INPUT: true; the input reads as it did. -/
def fnExactHistTasksSpec : ChangeSpec := { name := "fnExactHistTasks", fn := fun _ => fun
  | [d] => { results := [.lit (.bool true)], args := [d] }
  | _ => none }
def fnExactHistTasksRow : OpenClaim := { program := "ytobeecopkfgplaa", sum := "1e33ebeea39b5b968fdef95998417e2e90328826547323472da15c91e8806b70", func := "loop.example/backstitch/laws.FnExactHistTasks", spec := "fnExactHistTasks", inPlace := ["internal/bytealg.IndexByteString"], unfollowed := true, recurses := true, apart := false }
def FnExactHistTasksSaid : Prop := fnExactHistTasksRow.holds Try.pinned (OpenSpec.ofChange fnExactHistTasksSpec)

/-- ITS FALSE NEIGHBOUR: 'it returns false'. Refute it at one input. -/
def fnExactHistTasksWrong : ChangeSpec := { name := "fnExactHistTasks", fn := fun _ => fun
  | [d] => { results := [.lit (.bool false)], args := [d] }
  | _ => none }
def FnExactHistTasksWrongFalsely : Prop := fnExactHistTasksRow.holds Try.pinned (OpenSpec.ofChange fnExactHistTasksWrong)

/-- 'laws.FnExactHistCmds': WHATEVER THE INPUT: true; the input reads as it did. -/
def fnExactHistCmdsSpec : ChangeSpec := { name := "fnExactHistCmds", fn := fun _ => fun
  | [d] => { results := [.lit (.bool true)], args := [d] }
  | _ => none }
def fnExactHistCmdsRow : OpenClaim := { program := "ytobeecopkfgplaa", sum := "1e33ebeea39b5b968fdef95998417e2e90328826547323472da15c91e8806b70", func := "loop.example/backstitch/laws.FnExactHistCmds", spec := "fnExactHistCmds", inPlace := ["internal/bytealg.IndexByteString"], unfollowed := true, recurses := true, apart := false }
def FnExactHistCmdsSaid : Prop := fnExactHistCmdsRow.holds Try.pinned (OpenSpec.ofChange fnExactHistCmdsSpec)

/-- ITS FALSE NEIGHBOUR: 'it returns false'. Refute it at one input. -/
def fnExactHistCmdsWrong : ChangeSpec := { name := "fnExactHistCmds", fn := fun _ => fun
  | [d] => { results := [.lit (.bool false)], args := [d] }
  | _ => none }
def FnExactHistCmdsWrongFalsely : Prop := fnExactHistCmdsRow.holds Try.pinned (OpenSpec.ofChange fnExactHistCmdsWrong)

/-- 'laws.FnExactHistCame': WHATEVER THE INPUT: true; the input reads as it did. -/
def fnExactHistCameSpec : ChangeSpec := { name := "fnExactHistCame", fn := fun _ => fun
  | [d] => { results := [.lit (.bool true)], args := [d] }
  | _ => none }
def fnExactHistCameRow : OpenClaim := { program := "ytobeecopkfgplaa", sum := "1e33ebeea39b5b968fdef95998417e2e90328826547323472da15c91e8806b70", func := "loop.example/backstitch/laws.FnExactHistCame", spec := "fnExactHistCame", inPlace := ["internal/bytealg.IndexByteString"], unfollowed := true, recurses := true, apart := false }
def FnExactHistCameSaid : Prop := fnExactHistCameRow.holds Try.pinned (OpenSpec.ofChange fnExactHistCameSpec)

/-- ITS FALSE NEIGHBOUR: 'it returns false'. Refute it at one input. -/
def fnExactHistCameWrong : ChangeSpec := { name := "fnExactHistCame", fn := fun _ => fun
  | [d] => { results := [.lit (.bool false)], args := [d] }
  | _ => none }
def FnExactHistCameWrongFalsely : Prop := fnExactHistCameRow.holds Try.pinned (OpenSpec.ofChange fnExactHistCameWrong)

/- THE SECOND FORM. 'bulk': how many values and letters a reading holds, each counted each time it is reached (what is shared counts as often as it is met; a slice's spare places count too). A statement '..UptoSaid' is the law's where the arguments, and the package variables that the reading takes, are together of bulk at most 1048576: NARROWER than '..Said'. Prove '..Said' where nothing that the law and all that it calls make is longer than what came in: it says more and counts as full. Else prove '..UptoSaid'. A law counts once. -/
mutual
def uptoBulk {H : Type} : DataW H → Nat
  | .lit (.string bytes) => bytes.length + 1
  | .lit _ => 1
  | .nil => 1
  | .ptr d => uptoBulk d + 1
  | .slice elems spare => uptoBulkAll elems + uptoBulkAll spare + 1
  | .agg parts => uptoBulkAll parts + 1
  | .iface _ d => uptoBulk d + 1
  | .map entries => uptoBulkEntries entries + 1
  | .held _ => 1
def uptoBulkAll {H : Type} : List (DataW H) → Nat
  | [] => 0
  | d :: r => uptoBulk d + uptoBulkAll r
def uptoBulkEntries {H : Type} : List (Lit × DataW H) → Nat
  | [] => 0
  | x :: r => uptoBulkEntry x + uptoBulkEntries r
def uptoBulkEntry {H : Type} : Lit × DataW H → Nat
  | (.string bytes, d) => bytes.length + uptoBulk d + 1
  | (_, d) => uptoBulk d + 1
 end
def uptoSmall : (H : Type) → List (DataW H) → Bool := fun _ ds => decide (uptoBulkAll ds ≤ 1048576)
def OpenSpec.upto (s : _root_.Go.ChangeSpec) : _root_.Go.OpenSpec := { _root_.Go.OpenSpec.ofChange s with cond := some uptoSmall }

/-- 'laws.FnExactHistOk', WHERE WHAT IT READS IS OF BULK AT MOST 1048576: true; the input reads as it did. -/
def fnExactHistOkUptoRow : OpenClaim := { program := "ytobeecopkfgplaa", sum := "1e33ebeea39b5b968fdef95998417e2e90328826547323472da15c91e8806b70", func := "loop.example/backstitch/laws.FnExactHistOk", spec := "fnExactHistOk", inPlace := ["internal/bytealg.IndexByteString"], unfollowed := true, recurses := true, apart := false, narrowed := true }
def FnExactHistOkUptoSaid : Prop := fnExactHistOkUptoRow.holds Try.pinned (OpenSpec.upto fnExactHistOkSpec)

/-- 'laws.FnExactHistOpen', WHERE WHAT IT READS IS OF BULK AT MOST 1048576: true; the input reads as it did. -/
def fnExactHistOpenUptoRow : OpenClaim := { program := "ytobeecopkfgplaa", sum := "1e33ebeea39b5b968fdef95998417e2e90328826547323472da15c91e8806b70", func := "loop.example/backstitch/laws.FnExactHistOpen", spec := "fnExactHistOpen", inPlace := ["internal/bytealg.IndexByteString"], unfollowed := true, recurses := true, apart := false, narrowed := true }
def FnExactHistOpenUptoSaid : Prop := fnExactHistOpenUptoRow.holds Try.pinned (OpenSpec.upto fnExactHistOpenSpec)

/-- 'laws.FnExactHistNews', WHERE WHAT IT READS IS OF BULK AT MOST 1048576: true; the input reads as it did. -/
def fnExactHistNewsUptoRow : OpenClaim := { program := "ytobeecopkfgplaa", sum := "1e33ebeea39b5b968fdef95998417e2e90328826547323472da15c91e8806b70", func := "loop.example/backstitch/laws.FnExactHistNews", spec := "fnExactHistNews", inPlace := ["internal/bytealg.IndexByteString"], unfollowed := true, recurses := true, apart := false, narrowed := true }
def FnExactHistNewsUptoSaid : Prop := fnExactHistNewsUptoRow.holds Try.pinned (OpenSpec.upto fnExactHistNewsSpec)

/-- 'laws.FnExactHistTasks', WHERE WHAT IT READS IS OF BULK AT MOST 1048576: true; the input reads as it did. -/
def fnExactHistTasksUptoRow : OpenClaim := { program := "ytobeecopkfgplaa", sum := "1e33ebeea39b5b968fdef95998417e2e90328826547323472da15c91e8806b70", func := "loop.example/backstitch/laws.FnExactHistTasks", spec := "fnExactHistTasks", inPlace := ["internal/bytealg.IndexByteString"], unfollowed := true, recurses := true, apart := false, narrowed := true }
def FnExactHistTasksUptoSaid : Prop := fnExactHistTasksUptoRow.holds Try.pinned (OpenSpec.upto fnExactHistTasksSpec)

/-- 'laws.FnExactHistCmds', WHERE WHAT IT READS IS OF BULK AT MOST 1048576: true; the input reads as it did. -/
def fnExactHistCmdsUptoRow : OpenClaim := { program := "ytobeecopkfgplaa", sum := "1e33ebeea39b5b968fdef95998417e2e90328826547323472da15c91e8806b70", func := "loop.example/backstitch/laws.FnExactHistCmds", spec := "fnExactHistCmds", inPlace := ["internal/bytealg.IndexByteString"], unfollowed := true, recurses := true, apart := false, narrowed := true }
def FnExactHistCmdsUptoSaid : Prop := fnExactHistCmdsUptoRow.holds Try.pinned (OpenSpec.upto fnExactHistCmdsSpec)

/-- 'laws.FnExactHistCame', WHERE WHAT IT READS IS OF BULK AT MOST 1048576: true; the input reads as it did. -/
def fnExactHistCameUptoRow : OpenClaim := { program := "ytobeecopkfgplaa", sum := "1e33ebeea39b5b968fdef95998417e2e90328826547323472da15c91e8806b70", func := "loop.example/backstitch/laws.FnExactHistCame", spec := "fnExactHistCame", inPlace := ["internal/bytealg.IndexByteString"], unfollowed := true, recurses := true, apart := false, narrowed := true }
def FnExactHistCameUptoSaid : Prop := fnExactHistCameUptoRow.holds Try.pinned (OpenSpec.upto fnExactHistCameSpec)

end Rows
end Go.Proofs.Ytobeecopkfgplaa
