/-
  No cell of these rows narrows 'for every input' (looked for: loops, veiled, ifaces, maps, wideKeys, modest, calm, conditions, laid).
  DERIVED. THE GIVEN ROWS OF THIS SEAT. 3 by the template 'for every input the law returns true; each argument reads behind the call as it read before'; 0 by the template 'total and deterministic' (their statements: YtgefkmdnopfbhaaTotals.lean).
  GIVEN WITH THE SEED: the statements are not yours to turn. If you find one false, say at which input.
  Laid BY PROGRAM, IN A SANDBOX (cutbox-rows.mjs): the forced cells as the released guide's own fill.sh prints them over the translation b846877c5a9809df… (all of the seat's roots in one cut). By AI agents, Wed Nov 11 2026. No macro, syntax, notation, axiom, sorry.
-/
import Derived.Test.YtgefkmdnopfbhaaChecked
import GoSem.Claim
import GoSem.ClaimJoined
import GoSem.ClaimMapViews
import Derived.JoinedTies
import Derived.KernelRfl
namespace Go.Proofs.Ytgefkmdnopfbhaa
/- THE CELL 'sum', in the pinned program and in every row, IS THE sha256 OF THE DUMP (.gsa) THAT YtgefkmdnopfbhaaProg.lean LOADS. Nothing in Lean hashes anything: it is a label: what it is worth is what the hold of that sum in a sandbox is worth. -/
noncomputable def Try.pinned : Pinned := { name := "ytgefkmdnopfbhaa", sum := "b846877c5a9809dfb1c8c12355d99501783d8c0590ae145cf81a970e73cd74da", checked := Try.checked }
namespace Rows
def none {H : Type} : Left H := { results := [], args := [] }

/-- 'laws.FnExactCmdOk': WHATEVER THE INPUT: true; the input reads as it did. -/
def fnExactCmdOkSpec : ChangeSpec := { name := "fnExactCmdOk", fn := fun _ => fun
  | [d] => { results := [.lit (.bool true)], args := [d] }
  | _ => none }
def fnExactCmdOkRow : OpenClaim := { program := "ytgefkmdnopfbhaa", sum := "b846877c5a9809dfb1c8c12355d99501783d8c0590ae145cf81a970e73cd74da", func := "loop.example/backstitch/laws.FnExactCmdOk", spec := "fnExactCmdOk", inPlace := ["internal/bytealg.IndexByteString"], unfollowed := true, recurses := true, apart := false }
def FnExactCmdOkSaid : Prop := fnExactCmdOkRow.holds Try.pinned (OpenSpec.ofChange fnExactCmdOkSpec)

/-- ITS FALSE NEIGHBOUR: 'it returns false'. Refute it at one input. -/
def fnExactCmdOkWrong : ChangeSpec := { name := "fnExactCmdOk", fn := fun _ => fun
  | [d] => { results := [.lit (.bool false)], args := [d] }
  | _ => none }
def FnExactCmdOkWrongFalsely : Prop := fnExactCmdOkRow.holds Try.pinned (OpenSpec.ofChange fnExactCmdOkWrong)

/-- 'laws.FnExactCameOk': WHATEVER THE INPUT: true; the input reads as it did. -/
def fnExactCameOkSpec : ChangeSpec := { name := "fnExactCameOk", fn := fun _ => fun
  | [d] => { results := [.lit (.bool true)], args := [d] }
  | _ => none }
def fnExactCameOkRow : OpenClaim := { program := "ytgefkmdnopfbhaa", sum := "b846877c5a9809dfb1c8c12355d99501783d8c0590ae145cf81a970e73cd74da", func := "loop.example/backstitch/laws.FnExactCameOk", spec := "fnExactCameOk", inPlace := ["internal/bytealg.IndexByteString"], unfollowed := true, recurses := true, apart := false }
def FnExactCameOkSaid : Prop := fnExactCameOkRow.holds Try.pinned (OpenSpec.ofChange fnExactCameOkSpec)

/-- ITS FALSE NEIGHBOUR: 'it returns false'. Refute it at one input. -/
def fnExactCameOkWrong : ChangeSpec := { name := "fnExactCameOk", fn := fun _ => fun
  | [d] => { results := [.lit (.bool false)], args := [d] }
  | _ => none }
def FnExactCameOkWrongFalsely : Prop := fnExactCameOkRow.holds Try.pinned (OpenSpec.ofChange fnExactCameOkWrong)

/-- 'laws.FnCmd': WHATEVER THE INPUT: true; the input reads as it did. -/
def fnCmdSpec : ChangeSpec := { name := "fnCmd", fn := fun _ => fun
  | [d1, d2] => { results := [.lit (.bool true)], args := [d1, d2] }
  | _ => none }
def fnCmdRow : OpenClaim := { program := "ytgefkmdnopfbhaa", sum := "b846877c5a9809dfb1c8c12355d99501783d8c0590ae145cf81a970e73cd74da", func := "loop.example/backstitch/laws.FnCmd", spec := "fnCmd", inPlace := ["internal/bytealg.IndexByteString"], unfollowed := true, recurses := true, apart := false }
def FnCmdSaid : Prop := fnCmdRow.holds Try.pinned (OpenSpec.ofChange fnCmdSpec)

/-- ITS FALSE NEIGHBOUR: 'it returns false'. Refute it at one input. -/
def fnCmdWrong : ChangeSpec := { name := "fnCmd", fn := fun _ => fun
  | [d1, d2] => { results := [.lit (.bool false)], args := [d1, d2] }
  | _ => none }
def FnCmdWrongFalsely : Prop := fnCmdRow.holds Try.pinned (OpenSpec.ofChange fnCmdWrong)

/- THE SECOND FORM. 'bulk': how many values and letters a reading holds, each counted each time it is reached (what is shared counts as often as it is met; a slice's spare places count too). A statement '..UptoSaid' is the law's where the arguments, and the package variables that the reading takes, are together of bulk at most 1048576: NARROWER than '..Said'. Prove '..Said' where nothing that the law and all that it calls make is longer than what came in: it says more and counts as full. Else prove '..UptoSaid'. A law counts once. -/
mutual
def uptoBulk {H : Type} : DataW H → Nat
  | .lit (.string bytes) => bytes.length + 1
  | .lit _ => 1
  | .nil => 1
  | .ptr d => uptoBulk d + 1
  | .slice elems spare => uptoBulkAll elems + uptoBulkAll spare + 1
  | .agg parts => uptoBulkAll parts + 1
  | .iface _ d => uptoBulk d + 1
  | .map entries => uptoBulkEntries entries + 1
  | .held _ => 1
def uptoBulkAll {H : Type} : List (DataW H) → Nat
  | [] => 0
  | d :: r => uptoBulk d + uptoBulkAll r
def uptoBulkEntries {H : Type} : List (Lit × DataW H) → Nat
  | [] => 0
  | x :: r => uptoBulkEntry x + uptoBulkEntries r
def uptoBulkEntry {H : Type} : Lit × DataW H → Nat
  | (.string bytes, d) => bytes.length + uptoBulk d + 1
  | (_, d) => uptoBulk d + 1
 end
def uptoSmall : (H : Type) → List (DataW H) → Bool := fun _ ds => decide (uptoBulkAll ds ≤ 1048576)
def OpenSpec.upto (s : _root_.Go.ChangeSpec) : _root_.Go.OpenSpec := { _root_.Go.OpenSpec.ofChange s with cond := some uptoSmall }

/-- 'laws.FnExactCmdOk', WHERE WHAT IT READS IS OF BULK AT MOST 1048576: true; the input reads as it did. -/
def fnExactCmdOkUptoRow : OpenClaim := { program := "ytgefkmdnopfbhaa", sum := "b846877c5a9809dfb1c8c12355d99501783d8c0590ae145cf81a970e73cd74da", func := "loop.example/backstitch/laws.FnExactCmdOk", spec := "fnExactCmdOk", inPlace := ["internal/bytealg.IndexByteString"], unfollowed := true, recurses := true, apart := false, narrowed := true }
def FnExactCmdOkUptoSaid : Prop := fnExactCmdOkUptoRow.holds Try.pinned (OpenSpec.upto fnExactCmdOkSpec)

/-- 'laws.FnExactCameOk', WHERE WHAT IT READS IS OF BULK AT MOST 1048576: true; the input reads as it did. -/
def fnExactCameOkUptoRow : OpenClaim := { program := "ytgefkmdnopfbhaa", sum := "b846877c5a9809dfb1c8c12355d99501783d8c0590ae145cf81a970e73cd74da", func := "loop.example/backstitch/laws.FnExactCameOk", spec := "fnExactCameOk", inPlace := ["internal/bytealg.IndexByteString"], unfollowed := true, recurses := true, apart := false, narrowed := true }
def FnExactCameOkUptoSaid : Prop := fnExactCameOkUptoRow.holds Try.pinned (OpenSpec.upto fnExactCameOkSpec)

/-- 'laws.FnCmd', WHERE WHAT IT READS IS OF BULK AT MOST 1048576: true; the input reads as it did. -/
def fnCmdUptoRow : OpenClaim := { program := "ytgefkmdnopfbhaa", sum := "b846877c5a9809dfb1c8c12355d99501783d8c0590ae145cf81a970e73cd74da", func := "loop.example/backstitch/laws.FnCmd", spec := "fnCmd", inPlace := ["internal/bytealg.IndexByteString"], unfollowed := true, recurses := true, apart := false, narrowed := true }
def FnCmdUptoSaid : Prop := fnCmdUptoRow.holds Try.pinned (OpenSpec.upto fnCmdSpec)

end Rows
end Go.Proofs.Ytgefkmdnopfbhaa
