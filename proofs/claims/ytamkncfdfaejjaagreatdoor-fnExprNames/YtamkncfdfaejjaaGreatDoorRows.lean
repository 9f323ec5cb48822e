/-
  NARROWER THAN 'FOR EVERY INPUT', by the rows' own cells (each row's printed sentence says how): FnExactExprEval: loops, laid · FnExprNames: laid · FnExprOrder: laid · FnExprNot: laid · FnExprSame: laid · FnExprAnd: laid.
  DERIVED. THE GIVEN ROWS OF THIS SEAT. 6 by the template 'for every input the law returns true; each argument reads behind the call as it read before'; 0 by the template 'total and deterministic' (their statements: YtamkncfdfaejjaaGreatDoorTotals.lean).
  GIVEN WITH THE SEED: the statements are not yours to turn. If you find one false, say at which input.
  Laid BY PROGRAM, IN A SANDBOX (cutbox-rows.mjs): the forced cells as the released guide's own fill.sh prints them over the translation a1232577b69528fc… (all of the seat's roots in one cut). By AI agents, Wed Nov 11 2026. No macro, syntax, notation, axiom, sorry.
-/
import Derived.Test.YtamkncfdfaejjaaGreatDoorChecked
import GoSem.Claim
import GoSem.ClaimJoined
import GoSem.ClaimMapViews
import Derived.JoinedTies
import Derived.KernelRfl
namespace Go.Proofs.YtamkncfdfaejjaaGreatDoor
/- THE CELL 'sum', in the pinned program and in every row, IS THE sha256 OF THE DUMP (.gsa) THAT YtamkncfdfaejjaaGreatDoorProg.lean LOADS. Nothing in Lean hashes anything: it is a label: what it is worth is what the hold of that sum in a sandbox is worth. -/
noncomputable def Tryz.pinned : Pinned := { name := "ytamkncfdfaejjaagreatdoor", sum := "a1232577b69528fc4866ca561d1c64576b9eeec907c046f88d1cbe570fde386e", checked := Tryz.checked }
namespace Rows
def none {H : Type} : Left H := { results := [], args := [] }

/- WHAT THE LISTED PACKAGE-LEVEL VARIABLES READ AS WHEN THE CALL BEGINS. Each datum BY PROGRAM (the guide's laid-datum.mjs) off the statement by which the dump's own 'gosem.cut.vars' lays the variable. In a bare row this is a premise. The card (YtamkncfdfaejjaaGreatDoorCards.lean) ties it to the program's text. -/
def laid_errors_errorType {H : Type} : DataW H := .iface "internal/reflectlite.rtype" (.agg [.ptr (.lit (.string [101, 114, 114, 111, 114]))])

/-- 'laws.FnExactExprEval': WHATEVER THE INPUT: true; the input reads as it did. -/
def fnExactExprEvalSpec : ChangeSpec := { name := "fnExactExprEval", fn := fun _ => fun
  | [d1, d2] => { results := [.lit (.bool true)], args := [d1, d2] }
  | _ => none }
def fnExactExprEvalRow : OpenClaim := { program := "ytamkncfdfaejjaagreatdoor", sum := "a1232577b69528fc4866ca561d1c64576b9eeec907c046f88d1cbe570fde386e", func := "loop.example/backstitch/laws.FnExactExprEval", spec := "fnExactExprEval", inPlace := ["internal/bytealg.IndexByteString", "internal/reflectlite.ValueOf", "(internal/reflectlite.Value).Type", "(internal/reflectlite.Value).IsNil", "internal/reflectlite.TypeOf", "(internal/reflectlite.Value).Elem", "(internal/reflectlite.Value).Set"], unfollowed := true, recurses := true, named := ["errors.errorType"], loops := true, apart := false, laid := [("errors.errorType", laid_errors_errorType)] }
def FnExactExprEvalSaid : Prop := fnExactExprEvalRow.holds Tryz.pinned (OpenSpec.ofChange fnExactExprEvalSpec)

/-- ITS FALSE NEIGHBOUR: 'it returns false'. Refute it at one input. -/
def fnExactExprEvalWrong : ChangeSpec := { name := "fnExactExprEval", fn := fun _ => fun
  | [d1, d2] => { results := [.lit (.bool false)], args := [d1, d2] }
  | _ => none }
def FnExactExprEvalWrongFalsely : Prop := fnExactExprEvalRow.holds Tryz.pinned (OpenSpec.ofChange fnExactExprEvalWrong)

/-- 'laws.FnExprNames': WHATEVER THE INPUT: true; the input reads as it did. -/
def fnExprNamesSpec : ChangeSpec := { name := "fnExprNames", fn := fun _ => fun
  | [d] => { results := [.lit (.bool true)], args := [d] }
  | _ => none }
def fnExprNamesRow : OpenClaim := { program := "ytamkncfdfaejjaagreatdoor", sum := "a1232577b69528fc4866ca561d1c64576b9eeec907c046f88d1cbe570fde386e", func := "loop.example/backstitch/laws.FnExprNames", spec := "fnExprNames", inPlace := ["internal/bytealg.IndexByteString", "internal/reflectlite.ValueOf", "(internal/reflectlite.Value).Type", "(internal/reflectlite.Value).IsNil", "internal/reflectlite.TypeOf", "(internal/reflectlite.Value).Elem", "(internal/reflectlite.Value).Set"], unfollowed := true, recurses := true, named := ["errors.errorType"], apart := false, laid := [("errors.errorType", laid_errors_errorType)] }
def FnExprNamesSaid : Prop := fnExprNamesRow.holds Tryz.pinned (OpenSpec.ofChange fnExprNamesSpec)

/-- ITS FALSE NEIGHBOUR: 'it returns false'. Refute it at one input. -/
def fnExprNamesWrong : ChangeSpec := { name := "fnExprNames", fn := fun _ => fun
  | [d] => { results := [.lit (.bool false)], args := [d] }
  | _ => none }
def FnExprNamesWrongFalsely : Prop := fnExprNamesRow.holds Tryz.pinned (OpenSpec.ofChange fnExprNamesWrong)

/-- 'laws.FnExprOrder': WHATEVER THE INPUT: true; the input reads as it did. -/
def fnExprOrderSpec : ChangeSpec := { name := "fnExprOrder", fn := fun _ => fun
  | [d] => { results := [.lit (.bool true)], args := [d] }
  | _ => none }
def fnExprOrderRow : OpenClaim := { program := "ytamkncfdfaejjaagreatdoor", sum := "a1232577b69528fc4866ca561d1c64576b9eeec907c046f88d1cbe570fde386e", func := "loop.example/backstitch/laws.FnExprOrder", spec := "fnExprOrder", inPlace := ["internal/bytealg.IndexByteString", "internal/reflectlite.ValueOf", "(internal/reflectlite.Value).Type", "(internal/reflectlite.Value).IsNil", "internal/reflectlite.TypeOf", "(internal/reflectlite.Value).Elem", "(internal/reflectlite.Value).Set"], unfollowed := true, recurses := true, named := ["errors.errorType"], apart := false, laid := [("errors.errorType", laid_errors_errorType)] }
def FnExprOrderSaid : Prop := fnExprOrderRow.holds Tryz.pinned (OpenSpec.ofChange fnExprOrderSpec)

/-- ITS FALSE NEIGHBOUR: 'it returns false'. Refute it at one input. -/
def fnExprOrderWrong : ChangeSpec := { name := "fnExprOrder", fn := fun _ => fun
  | [d] => { results := [.lit (.bool false)], args := [d] }
  | _ => none }
def FnExprOrderWrongFalsely : Prop := fnExprOrderRow.holds Tryz.pinned (OpenSpec.ofChange fnExprOrderWrong)

/-- 'laws.FnExprNot': WHATEVER THE INPUT: true; the input reads as it did. -/
def fnExprNotSpec : ChangeSpec := { name := "fnExprNot", fn := fun _ => fun
  | [d] => { results := [.lit (.bool true)], args := [d] }
  | _ => none }
def fnExprNotRow : OpenClaim := { program := "ytamkncfdfaejjaagreatdoor", sum := "a1232577b69528fc4866ca561d1c64576b9eeec907c046f88d1cbe570fde386e", func := "loop.example/backstitch/laws.FnExprNot", spec := "fnExprNot", inPlace := ["internal/bytealg.IndexByteString", "internal/reflectlite.ValueOf", "(internal/reflectlite.Value).Type", "(internal/reflectlite.Value).IsNil", "internal/reflectlite.TypeOf", "(internal/reflectlite.Value).Elem", "(internal/reflectlite.Value).Set"], unfollowed := true, recurses := true, named := ["errors.errorType"], apart := false, laid := [("errors.errorType", laid_errors_errorType)] }
def FnExprNotSaid : Prop := fnExprNotRow.holds Tryz.pinned (OpenSpec.ofChange fnExprNotSpec)

/-- ITS FALSE NEIGHBOUR: 'it returns false'. Refute it at one input. -/
def fnExprNotWrong : ChangeSpec := { name := "fnExprNot", fn := fun _ => fun
  | [d] => { results := [.lit (.bool false)], args := [d] }
  | _ => none }
def FnExprNotWrongFalsely : Prop := fnExprNotRow.holds Tryz.pinned (OpenSpec.ofChange fnExprNotWrong)

/-- 'laws.FnExprSame': WHATEVER THE INPUT: true; the input reads as it did. -/
def fnExprSameSpec : ChangeSpec := { name := "fnExprSame", fn := fun _ => fun
  | [d] => { results := [.lit (.bool true)], args := [d] }
  | _ => none }
def fnExprSameRow : OpenClaim := { program := "ytamkncfdfaejjaagreatdoor", sum := "a1232577b69528fc4866ca561d1c64576b9eeec907c046f88d1cbe570fde386e", func := "loop.example/backstitch/laws.FnExprSame", spec := "fnExprSame", inPlace := ["internal/bytealg.IndexByteString", "internal/reflectlite.ValueOf", "(internal/reflectlite.Value).Type", "(internal/reflectlite.Value).IsNil", "internal/reflectlite.TypeOf", "(internal/reflectlite.Value).Elem", "(internal/reflectlite.Value).Set"], unfollowed := true, recurses := true, named := ["errors.errorType"], apart := false, laid := [("errors.errorType", laid_errors_errorType)] }
def FnExprSameSaid : Prop := fnExprSameRow.holds Tryz.pinned (OpenSpec.ofChange fnExprSameSpec)

/-- ITS FALSE NEIGHBOUR: 'it returns false'. Refute it at one input. -/
def fnExprSameWrong : ChangeSpec := { name := "fnExprSame", fn := fun _ => fun
  | [d] => { results := [.lit (.bool false)], args := [d] }
  | _ => none }
def FnExprSameWrongFalsely : Prop := fnExprSameRow.holds Tryz.pinned (OpenSpec.ofChange fnExprSameWrong)

/-- 'laws.FnExprAnd': WHATEVER THE INPUT: true; the input reads as it did. -/
def fnExprAndSpec : ChangeSpec := { name := "fnExprAnd", fn := fun _ => fun
  | [d] => { results := [.lit (.bool true)], args := [d] }
  | _ => none }
def fnExprAndRow : OpenClaim := { program := "ytamkncfdfaejjaagreatdoor", sum := "a1232577b69528fc4866ca561d1c64576b9eeec907c046f88d1cbe570fde386e", func := "loop.example/backstitch/laws.FnExprAnd", spec := "fnExprAnd", inPlace := ["internal/bytealg.IndexByteString", "internal/reflectlite.ValueOf", "(internal/reflectlite.Value).Type", "(internal/reflectlite.Value).IsNil", "internal/reflectlite.TypeOf", "(internal/reflectlite.Value).Elem", "(internal/reflectlite.Value).Set"], unfollowed := true, recurses := true, named := ["errors.errorType"], apart := false, laid := [("errors.errorType", laid_errors_errorType)] }
def FnExprAndSaid : Prop := fnExprAndRow.holds Tryz.pinned (OpenSpec.ofChange fnExprAndSpec)

/-- ITS FALSE NEIGHBOUR: 'it returns false'. Refute it at one input. -/
def fnExprAndWrong : ChangeSpec := { name := "fnExprAnd", fn := fun _ => fun
  | [d] => { results := [.lit (.bool false)], args := [d] }
  | _ => none }
def FnExprAndWrongFalsely : Prop := fnExprAndRow.holds Tryz.pinned (OpenSpec.ofChange fnExprAndWrong)

/- THE SECOND FORM. 'bulk': how many values and letters a reading holds, each counted each time it is reached (what is shared counts as often as it is met; a slice's spare places count too). A statement '..UptoSaid' is the law's where the arguments, and the package variables that the reading takes, are together of bulk at most 1048576: NARROWER than '..Said'. Prove '..Said' where nothing that the law and all that it calls make is longer than what came in: it says more and counts as full. Else prove '..UptoSaid'. A law counts once. -/
mutual
def uptoBulk {H : Type} : DataW H → Nat
  | .lit (.string bytes) => bytes.length + 1
  | .lit _ => 1
  | .nil => 1
  | .ptr d => uptoBulk d + 1
  | .slice elems spare => uptoBulkAll elems + uptoBulkAll spare + 1
  | .agg parts => uptoBulkAll parts + 1
  | .iface _ d => uptoBulk d + 1
  | .map entries => uptoBulkEntries entries + 1
  | .held _ => 1
def uptoBulkAll {H : Type} : List (DataW H) → Nat
  | [] => 0
  | d :: r => uptoBulk d + uptoBulkAll r
def uptoBulkEntries {H : Type} : List (Lit × DataW H) → Nat
  | [] => 0
  | x :: r => uptoBulkEntry x + uptoBulkEntries r
def uptoBulkEntry {H : Type} : Lit × DataW H → Nat
  | (.string bytes, d) => bytes.length + uptoBulk d + 1
  | (_, d) => uptoBulk d + 1
 end
def uptoSmall : (H : Type) → List (DataW H) → Bool := fun _ ds => decide (uptoBulkAll ds ≤ 1048576)
def OpenSpec.upto (s : _root_.Go.ChangeSpec) : _root_.Go.OpenSpec := { _root_.Go.OpenSpec.ofChange s with cond := some uptoSmall }

/-- 'laws.FnExactExprEval', WHERE WHAT IT READS IS OF BULK AT MOST 1048576: true; the input reads as it did. -/
def fnExactExprEvalUptoRow : OpenClaim := { program := "ytamkncfdfaejjaagreatdoor", sum := "a1232577b69528fc4866ca561d1c64576b9eeec907c046f88d1cbe570fde386e", func := "loop.example/backstitch/laws.FnExactExprEval", spec := "fnExactExprEval", inPlace := ["internal/bytealg.IndexByteString", "internal/reflectlite.ValueOf", "(internal/reflectlite.Value).Type", "(internal/reflectlite.Value).IsNil", "internal/reflectlite.TypeOf", "(internal/reflectlite.Value).Elem", "(internal/reflectlite.Value).Set"], unfollowed := true, recurses := true, named := ["errors.errorType"], loops := true, apart := false, laid := [("errors.errorType", laid_errors_errorType)], narrowed := true }
def FnExactExprEvalUptoSaid : Prop := fnExactExprEvalUptoRow.holds Tryz.pinned (OpenSpec.upto fnExactExprEvalSpec)

/-- 'laws.FnExprNames', WHERE WHAT IT READS IS OF BULK AT MOST 1048576: true; the input reads as it did. -/
def fnExprNamesUptoRow : OpenClaim := { program := "ytamkncfdfaejjaagreatdoor", sum := "a1232577b69528fc4866ca561d1c64576b9eeec907c046f88d1cbe570fde386e", func := "loop.example/backstitch/laws.FnExprNames", spec := "fnExprNames", inPlace := ["internal/bytealg.IndexByteString", "internal/reflectlite.ValueOf", "(internal/reflectlite.Value).Type", "(internal/reflectlite.Value).IsNil", "internal/reflectlite.TypeOf", "(internal/reflectlite.Value).Elem", "(internal/reflectlite.Value).Set"], unfollowed := true, recurses := true, named := ["errors.errorType"], apart := false, laid := [("errors.errorType", laid_errors_errorType)], narrowed := true }
def FnExprNamesUptoSaid : Prop := fnExprNamesUptoRow.holds Tryz.pinned (OpenSpec.upto fnExprNamesSpec)

/-- 'laws.FnExprOrder', WHERE WHAT IT READS IS OF BULK AT MOST 1048576: true; the input reads as it did. -/
def fnExprOrderUptoRow : OpenClaim := { program := "ytamkncfdfaejjaagreatdoor", sum := "a1232577b69528fc4866ca561d1c64576b9eeec907c046f88d1cbe570fde386e", func := "loop.example/backstitch/laws.FnExprOrder", spec := "fnExprOrder", inPlace := ["internal/bytealg.IndexByteString", "internal/reflectlite.ValueOf", "(internal/reflectlite.Value).Type", "(internal/reflectlite.Value).IsNil", "internal/reflectlite.TypeOf", "(internal/reflectlite.Value).Elem", "(internal/reflectlite.Value).Set"], unfollowed := true, recurses := true, named := ["errors.errorType"], apart := false, laid := [("errors.errorType", laid_errors_errorType)], narrowed := true }
def FnExprOrderUptoSaid : Prop := fnExprOrderUptoRow.holds Tryz.pinned (OpenSpec.upto fnExprOrderSpec)

/-- 'laws.FnExprNot', WHERE WHAT IT READS IS OF BULK AT MOST 1048576: true; the input reads as it did. -/
def fnExprNotUptoRow : OpenClaim := { program := "ytamkncfdfaejjaagreatdoor", sum := "a1232577b69528fc4866ca561d1c64576b9eeec907c046f88d1cbe570fde386e", func := "loop.example/backstitch/laws.FnExprNot", spec := "fnExprNot", inPlace := ["internal/bytealg.IndexByteString", "internal/reflectlite.ValueOf", "(internal/reflectlite.Value).Type", "(internal/reflectlite.Value).IsNil", "internal/reflectlite.TypeOf", "(internal/reflectlite.Value).Elem", "(internal/reflectlite.Value).Set"], unfollowed := true, recurses := true, named := ["errors.errorType"], apart := false, laid := [("errors.errorType", laid_errors_errorType)], narrowed := true }
def FnExprNotUptoSaid : Prop := fnExprNotUptoRow.holds Tryz.pinned (OpenSpec.upto fnExprNotSpec)

/-- 'laws.FnExprSame', WHERE WHAT IT READS IS OF BULK AT MOST 1048576: true; the input reads as it did. -/
def fnExprSameUptoRow : OpenClaim := { program := "ytamkncfdfaejjaagreatdoor", sum := "a1232577b69528fc4866ca561d1c64576b9eeec907c046f88d1cbe570fde386e", func := "loop.example/backstitch/laws.FnExprSame", spec := "fnExprSame", inPlace := ["internal/bytealg.IndexByteString", "internal/reflectlite.ValueOf", "(internal/reflectlite.Value).Type", "(internal/reflectlite.Value).IsNil", "internal/reflectlite.TypeOf", "(internal/reflectlite.Value).Elem", "(internal/reflectlite.Value).Set"], unfollowed := true, recurses := true, named := ["errors.errorType"], apart := false, laid := [("errors.errorType", laid_errors_errorType)], narrowed := true }
def FnExprSameUptoSaid : Prop := fnExprSameUptoRow.holds Tryz.pinned (OpenSpec.upto fnExprSameSpec)

/-- 'laws.FnExprAnd', WHERE WHAT IT READS IS OF BULK AT MOST 1048576: true; the input reads as it did. -/
def fnExprAndUptoRow : OpenClaim := { program := "ytamkncfdfaejjaagreatdoor", sum := "a1232577b69528fc4866ca561d1c64576b9eeec907c046f88d1cbe570fde386e", func := "loop.example/backstitch/laws.FnExprAnd", spec := "fnExprAnd", inPlace := ["internal/bytealg.IndexByteString", "internal/reflectlite.ValueOf", "(internal/reflectlite.Value).Type", "(internal/reflectlite.Value).IsNil", "internal/reflectlite.TypeOf", "(internal/reflectlite.Value).Elem", "(internal/reflectlite.Value).Set"], unfollowed := true, recurses := true, named := ["errors.errorType"], apart := false, laid := [("errors.errorType", laid_errors_errorType)], narrowed := true }
def FnExprAndUptoSaid : Prop := fnExprAndUptoRow.holds Tryz.pinned (OpenSpec.upto fnExprAndSpec)

end Rows
end Go.Proofs.YtamkncfdfaejjaaGreatDoor
