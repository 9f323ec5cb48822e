/-
  NARROWER THAN 'FOR EVERY INPUT', by the rows' own cells (each row's printed sentence says how): FnExactExprOk: loops · FnExactExprNames: loops · FnExactProgCheck: loops · FnExactProgCount: loops.
  DERIVED. THE GIVEN ROWS OF THIS SEAT. 4 by the template 'for every input the law returns true; each argument reads behind the call as it read before'; 0 by the template 'total and deterministic' (their statements: YtckdpdlkjgjadaaTotals.lean).
  GIVEN WITH THE SEED: the statements are not yours to turn. If you find one false, say at which input.
  Laid BY PROGRAM, IN A SANDBOX (cutbox-rows.mjs): the forced cells as the released guide's own fill.sh prints them over the translation 0f3a688815fe049a… (all of the seat's roots in one cut). By AI agents, Wed Nov 11 2026. No macro, syntax, notation, axiom, sorry.
-/
import Derived.Test.YtckdpdlkjgjadaaChecked
import GoSem.Claim
import GoSem.ClaimJoined
import GoSem.ClaimMapViews
import Derived.JoinedTies
import Derived.KernelRfl
namespace Go.Proofs.Ytckdpdlkjgjadaa
/- THE CELL 'sum', in the pinned program and in every row, IS THE sha256 OF THE DUMP (.gsa) THAT YtckdpdlkjgjadaaProg.lean LOADS. Nothing in Lean hashes anything: it is a label: what it is worth is what the hold of that sum in a sandbox is worth. -/
noncomputable def Try.pinned : Pinned := { name := "ytckdpdlkjgjadaa", sum := "0f3a688815fe049a769200e9f141593081ccb4d093e2de6c306f3b24394728b1", checked := Try.checked }
namespace Rows
def none {H : Type} : Left H := { results := [], args := [] }

/-- 'laws.FnExactExprOk': WHATEVER THE INPUT: true; the input reads as it did. -/
def fnExactExprOkSpec : ChangeSpec := { name := "fnExactExprOk", fn := fun _ => fun
  | [d] => { results := [.lit (.bool true)], args := [d] }
  | _ => none }
def fnExactExprOkRow : OpenClaim := { program := "ytckdpdlkjgjadaa", sum := "0f3a688815fe049a769200e9f141593081ccb4d093e2de6c306f3b24394728b1", func := "loop.example/backstitch/laws.FnExactExprOk", spec := "fnExactExprOk", inPlace := ["internal/bytealg.IndexByteString"], unfollowed := true, recurses := true, loops := true, apart := false }
def FnExactExprOkSaid : Prop := fnExactExprOkRow.holds Try.pinned (OpenSpec.ofChange fnExactExprOkSpec)

/-- ITS FALSE NEIGHBOUR: 'it returns false'. Refute it at one input. -/
def fnExactExprOkWrong : ChangeSpec := { name := "fnExactExprOk", fn := fun _ => fun
  | [d] => { results := [.lit (.bool false)], args := [d] }
  | _ => none }
def FnExactExprOkWrongFalsely : Prop := fnExactExprOkRow.holds Try.pinned (OpenSpec.ofChange fnExactExprOkWrong)

/-- 'laws.FnExactExprNames': WHATEVER THE INPUT: true; the input reads as it did. -/
def fnExactExprNamesSpec : ChangeSpec := { name := "fnExactExprNames", fn := fun _ => fun
  | [d] => { results := [.lit (.bool true)], args := [d] }
  | _ => none }
def fnExactExprNamesRow : OpenClaim := { program := "ytckdpdlkjgjadaa", sum := "0f3a688815fe049a769200e9f141593081ccb4d093e2de6c306f3b24394728b1", func := "loop.example/backstitch/laws.FnExactExprNames", spec := "fnExactExprNames", inPlace := ["internal/bytealg.IndexByteString"], unfollowed := true, recurses := true, loops := true, apart := false }
def FnExactExprNamesSaid : Prop := fnExactExprNamesRow.holds Try.pinned (OpenSpec.ofChange fnExactExprNamesSpec)

/-- ITS FALSE NEIGHBOUR: 'it returns false'. Refute it at one input. -/
def fnExactExprNamesWrong : ChangeSpec := { name := "fnExactExprNames", fn := fun _ => fun
  | [d] => { results := [.lit (.bool false)], args := [d] }
  | _ => none }
def FnExactExprNamesWrongFalsely : Prop := fnExactExprNamesRow.holds Try.pinned (OpenSpec.ofChange fnExactExprNamesWrong)

/-- 'laws.FnExactProgCheck': WHATEVER THE INPUT: true; the input reads as it did. -/
def fnExactProgCheckSpec : ChangeSpec := { name := "fnExactProgCheck", fn := fun _ => fun
  | [d] => { results := [.lit (.bool true)], args := [d] }
  | _ => none }
def fnExactProgCheckRow : OpenClaim := { program := "ytckdpdlkjgjadaa", sum := "0f3a688815fe049a769200e9f141593081ccb4d093e2de6c306f3b24394728b1", func := "loop.example/backstitch/laws.FnExactProgCheck", spec := "fnExactProgCheck", inPlace := ["internal/bytealg.IndexByteString"], unfollowed := true, recurses := true, loops := true, apart := false }
def FnExactProgCheckSaid : Prop := fnExactProgCheckRow.holds Try.pinned (OpenSpec.ofChange fnExactProgCheckSpec)

/-- ITS FALSE NEIGHBOUR: 'it returns false'. Refute it at one input. -/
def fnExactProgCheckWrong : ChangeSpec := { name := "fnExactProgCheck", fn := fun _ => fun
  | [d] => { results := [.lit (.bool false)], args := [d] }
  | _ => none }
def FnExactProgCheckWrongFalsely : Prop := fnExactProgCheckRow.holds Try.pinned (OpenSpec.ofChange fnExactProgCheckWrong)

/-- 'laws.FnExactProgCount': WHATEVER THE INPUT: true; the input reads as it did. -/
def fnExactProgCountSpec : ChangeSpec := { name := "fnExactProgCount", fn := fun _ => fun
  | [d] => { results := [.lit (.bool true)], args := [d] }
  | _ => none }
def fnExactProgCountRow : OpenClaim := { program := "ytckdpdlkjgjadaa", sum := "0f3a688815fe049a769200e9f141593081ccb4d093e2de6c306f3b24394728b1", func := "loop.example/backstitch/laws.FnExactProgCount", spec := "fnExactProgCount", inPlace := ["internal/bytealg.IndexByteString"], unfollowed := true, recurses := true, loops := true, apart := false }
def FnExactProgCountSaid : Prop := fnExactProgCountRow.holds Try.pinned (OpenSpec.ofChange fnExactProgCountSpec)

/-- ITS FALSE NEIGHBOUR: 'it returns false'. Refute it at one input. -/
def fnExactProgCountWrong : ChangeSpec := { name := "fnExactProgCount", fn := fun _ => fun
  | [d] => { results := [.lit (.bool false)], args := [d] }
  | _ => none }
def FnExactProgCountWrongFalsely : Prop := fnExactProgCountRow.holds Try.pinned (OpenSpec.ofChange fnExactProgCountWrong)

/- THE SECOND FORM. 'bulk': how many values and letters a reading holds, each counted each time it is reached (what is shared counts as often as it is met; a slice's spare places count too). A statement '..UptoSaid' is the law's where the arguments, and the package variables that the reading takes, are together of bulk at most 1048576: NARROWER than '..Said'. Prove '..Said' where nothing that the law and all that it calls make is longer than what came in: it says more and counts as full. Else prove '..UptoSaid'. A law counts once. -/
mutual
def uptoBulk {H : Type} : DataW H → Nat
  | .lit (.string bytes) => bytes.length + 1
  | .lit _ => 1
  | .nil => 1
  | .ptr d => uptoBulk d + 1
  | .slice elems spare => uptoBulkAll elems + uptoBulkAll spare + 1
  | .agg parts => uptoBulkAll parts + 1
  | .iface _ d => uptoBulk d + 1
  | .map entries => uptoBulkEntries entries + 1
  | .held _ => 1
def uptoBulkAll {H : Type} : List (DataW H) → Nat
  | [] => 0
  | d :: r => uptoBulk d + uptoBulkAll r
def uptoBulkEntries {H : Type} : List (Lit × DataW H) → Nat
  | [] => 0
  | x :: r => uptoBulkEntry x + uptoBulkEntries r
def uptoBulkEntry {H : Type} : Lit × DataW H → Nat
  | (.string bytes, d) => bytes.length + uptoBulk d + 1
  | (_, d) => uptoBulk d + 1
 end
def uptoSmall : (H : Type) → List (DataW H) → Bool := fun _ ds => decide (uptoBulkAll ds ≤ 1048576)
def OpenSpec.upto (s : _root_.Go.ChangeSpec) : _root_.Go.OpenSpec := { _root_.Go.OpenSpec.ofChange s with cond := some uptoSmall }

/-- 'laws.FnExactExprOk', WHERE WHAT IT READS IS OF BULK AT MOST 1048576: true; the input reads as it did. -/
def fnExactExprOkUptoRow : OpenClaim := { program := "ytckdpdlkjgjadaa", sum := "0f3a688815fe049a769200e9f141593081ccb4d093e2de6c306f3b24394728b1", func := "loop.example/backstitch/laws.FnExactExprOk", spec := "fnExactExprOk", inPlace := ["internal/bytealg.IndexByteString"], unfollowed := true, recurses := true, loops := true, apart := false, narrowed := true }
def FnExactExprOkUptoSaid : Prop := fnExactExprOkUptoRow.holds Try.pinned (OpenSpec.upto fnExactExprOkSpec)

/-- 'laws.FnExactExprNames', WHERE WHAT IT READS IS OF BULK AT MOST 1048576: true; the input reads as it did. -/
def fnExactExprNamesUptoRow : OpenClaim := { program := "ytckdpdlkjgjadaa", sum := "0f3a688815fe049a769200e9f141593081ccb4d093e2de6c306f3b24394728b1", func := "loop.example/backstitch/laws.FnExactExprNames", spec := "fnExactExprNames", inPlace := ["internal/bytealg.IndexByteString"], unfollowed := true, recurses := true, loops := true, apart := false, narrowed := true }
def FnExactExprNamesUptoSaid : Prop := fnExactExprNamesUptoRow.holds Try.pinned (OpenSpec.upto fnExactExprNamesSpec)

/-- 'laws.FnExactProgCheck', WHERE WHAT IT READS IS OF BULK AT MOST 1048576: true; the input reads as it did. -/
def fnExactProgCheckUptoRow : OpenClaim := { program := "ytckdpdlkjgjadaa", sum := "0f3a688815fe049a769200e9f141593081ccb4d093e2de6c306f3b24394728b1", func := "loop.example/backstitch/laws.FnExactProgCheck", spec := "fnExactProgCheck", inPlace := ["internal/bytealg.IndexByteString"], unfollowed := true, recurses := true, loops := true, apart := false, narrowed := true }
def FnExactProgCheckUptoSaid : Prop := fnExactProgCheckUptoRow.holds Try.pinned (OpenSpec.upto fnExactProgCheckSpec)

/-- 'laws.FnExactProgCount', WHERE WHAT IT READS IS OF BULK AT MOST 1048576: true; the input reads as it did. -/
def fnExactProgCountUptoRow : OpenClaim := { program := "ytckdpdlkjgjadaa", sum := "0f3a688815fe049a769200e9f141593081ccb4d093e2de6c306f3b24394728b1", func := "loop.example/backstitch/laws.FnExactProgCount", spec := "fnExactProgCount", inPlace := ["internal/bytealg.IndexByteString"], unfollowed := true, recurses := true, loops := true, apart := false, narrowed := true }
def FnExactProgCountUptoSaid : Prop := fnExactProgCountUptoRow.holds Try.pinned (OpenSpec.upto fnExactProgCountSpec)

end Rows
end Go.Proofs.Ytckdpdlkjgjadaa
