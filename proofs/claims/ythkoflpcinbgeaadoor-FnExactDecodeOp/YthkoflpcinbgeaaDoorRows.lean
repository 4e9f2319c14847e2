/-
  NARROWER THAN 'FOR EVERY INPUT', by the rows' own cells (each row's printed sentence says how): FnExactEncodeOp: laid · FnExactDecodeOp: laid · FnExactLogRecord: laid.
  DERIVED. THE GIVEN ROWS OF THIS SEAT. 3 by the template 'for every input the law returns true; each argument reads behind the call as it read before'; 0 by the template 'total and deterministic' (their statements: YthkoflpcinbgeaaDoorTotals.lean).
  GIVEN WITH THE SEED: the statements are not yours to turn. If you find one false, say at which input.
  Laid BY PROGRAM, IN A SANDBOX (cutbox-rows.mjs): the forced cells as the released guide's own fill.sh prints them over the translation 81526c758263049d… (all of the seat's roots in one cut). By AI agents, Wed Nov 11 2026. No macro, syntax, notation, axiom, sorry.
-/
import Derived.Test.YthkoflpcinbgeaaDoorChecked
import GoSem.Claim
import GoSem.ClaimJoined
import GoSem.ClaimMapViews
import Derived.JoinedTies
import Derived.KernelRfl
namespace Go.Proofs.YthkoflpcinbgeaaDoor
/- THE CELL 'sum', in the pinned program and in every row, IS THE sha256 OF THE DUMP (.gsa) THAT YthkoflpcinbgeaaDoorProg.lean LOADS. Nothing in Lean hashes anything: it is a label: what it is worth is what the hold of that sum in a sandbox is worth. -/
noncomputable def Tryd.pinned : Pinned := { name := "ythkoflpcinbgeaadoor", sum := "81526c758263049d12a30e37443853e67a4f99d6e119c9533ad4ade9cdcd17a7", checked := Tryd.checked }
namespace Rows
def none {H : Type} : Left H := { results := [], args := [] }

/- WHAT THE LISTED PACKAGE-LEVEL VARIABLES READ AS WHEN THE CALL BEGINS. Each datum BY PROGRAM (the guide's laid-datum.mjs) off the statement by which the dump's own 'gosem.cut.vars' lays the variable. In a bare row this is a premise. The card (YthkoflpcinbgeaaDoorCards.lean) ties it to the program's text. -/
def laid_errors_errorType {H : Type} : DataW H := .iface "internal/reflectlite.rtype" (.agg [.ptr (.lit (.string [101, 114, 114, 111, 114]))])

/-- 'laws.FnExactEncodeOp': WHATEVER THE INPUT: true; the input reads as it did. -/
def fnExactEncodeOpSpec : ChangeSpec := { name := "fnExactEncodeOp", fn := fun _ => fun
  | [d] => { results := [.lit (.bool true)], args := [d] }
  | _ => none }
def fnExactEncodeOpRow : OpenClaim := { program := "ythkoflpcinbgeaadoor", sum := "81526c758263049d12a30e37443853e67a4f99d6e119c9533ad4ade9cdcd17a7", func := "loop.example/s02533/laws.FnExactEncodeOp", spec := "fnExactEncodeOp", inPlace := ["internal/reflectlite.ValueOf", "(internal/reflectlite.Value).Type", "(internal/reflectlite.Value).IsNil", "internal/reflectlite.TypeOf", "(internal/reflectlite.Value).Elem", "(internal/reflectlite.Value).Set"], unfollowed := true, recurses := true, named := ["errors.errorType"], apart := false, laid := [("errors.errorType", laid_errors_errorType)] }
def FnExactEncodeOpSaid : Prop := fnExactEncodeOpRow.holds Tryd.pinned (OpenSpec.ofChange fnExactEncodeOpSpec)

/-- ITS FALSE NEIGHBOUR: 'it returns false'. Refute it at one input. -/
def fnExactEncodeOpWrong : ChangeSpec := { name := "fnExactEncodeOp", fn := fun _ => fun
  | [d] => { results := [.lit (.bool false)], args := [d] }
  | _ => none }
def FnExactEncodeOpWrongFalsely : Prop := fnExactEncodeOpRow.holds Tryd.pinned (OpenSpec.ofChange fnExactEncodeOpWrong)

/-- 'laws.FnExactDecodeOp': WHATEVER THE INPUT: true; the input reads as it did. -/
def fnExactDecodeOpSpec : ChangeSpec := { name := "fnExactDecodeOp", fn := fun _ => fun
  | [d] => { results := [.lit (.bool true)], args := [d] }
  | _ => none }
def fnExactDecodeOpRow : OpenClaim := { program := "ythkoflpcinbgeaadoor", sum := "81526c758263049d12a30e37443853e67a4f99d6e119c9533ad4ade9cdcd17a7", func := "loop.example/s02533/laws.FnExactDecodeOp", spec := "fnExactDecodeOp", inPlace := ["internal/reflectlite.ValueOf", "(internal/reflectlite.Value).Type", "(internal/reflectlite.Value).IsNil", "internal/reflectlite.TypeOf", "(internal/reflectlite.Value).Elem", "(internal/reflectlite.Value).Set"], unfollowed := true, recurses := true, named := ["errors.errorType"], apart := false, laid := [("errors.errorType", laid_errors_errorType)] }
def FnExactDecodeOpSaid : Prop := fnExactDecodeOpRow.holds Tryd.pinned (OpenSpec.ofChange fnExactDecodeOpSpec)

/-- ITS FALSE NEIGHBOUR: 'it returns false'. Refute it at one input. -/
def fnExactDecodeOpWrong : ChangeSpec := { name := "fnExactDecodeOp", fn := fun _ => fun
  | [d] => { results := [.lit (.bool false)], args := [d] }
  | _ => none }
def FnExactDecodeOpWrongFalsely : Prop := fnExactDecodeOpRow.holds Tryd.pinned (OpenSpec.ofChange fnExactDecodeOpWrong)

/-- 'laws.FnExactLogRecord': WHATEVER THE INPUT: true; the input reads as it did. -/
def fnExactLogRecordSpec : ChangeSpec := { name := "fnExactLogRecord", fn := fun _ => fun
  | [d1, d2] => { results := [.lit (.bool true)], args := [d1, d2] }
  | _ => none }
def fnExactLogRecordRow : OpenClaim := { program := "ythkoflpcinbgeaadoor", sum := "81526c758263049d12a30e37443853e67a4f99d6e119c9533ad4ade9cdcd17a7", func := "loop.example/s02533/laws.FnExactLogRecord", spec := "fnExactLogRecord", inPlace := ["internal/reflectlite.ValueOf", "(internal/reflectlite.Value).Type", "(internal/reflectlite.Value).IsNil", "internal/reflectlite.TypeOf", "(internal/reflectlite.Value).Elem", "(internal/reflectlite.Value).Set"], unfollowed := true, recurses := true, named := ["errors.errorType"], apart := false, laid := [("errors.errorType", laid_errors_errorType)] }
def FnExactLogRecordSaid : Prop := fnExactLogRecordRow.holds Tryd.pinned (OpenSpec.ofChange fnExactLogRecordSpec)

/-- ITS FALSE NEIGHBOUR: 'it returns false'. Refute it at one input. -/
def fnExactLogRecordWrong : ChangeSpec := { name := "fnExactLogRecord", fn := fun _ => fun
  | [d1, d2] => { results := [.lit (.bool false)], args := [d1, d2] }
  | _ => none }
def FnExactLogRecordWrongFalsely : Prop := fnExactLogRecordRow.holds Tryd.pinned (OpenSpec.ofChange fnExactLogRecordWrong)

/- THE SECOND FORM. 'bulk': how many values and letters a reading holds, each counted each time it is reached (what is shared counts as often as it is met; a slice's spare places count too). A statement '..UptoSaid' is the law's where the arguments, and the package variables that the reading takes, are together of bulk at most 1048576: NARROWER than '..Said'. Prove '..Said' where nothing that the law and all that it calls make is longer than what came in: it says more and counts as full. Else prove '..UptoSaid'. A law counts once. -/
mutual
def uptoBulk {H : Type} : DataW H → Nat
  | .lit (.string bytes) => bytes.length + 1
  | .lit _ => 1
  | .nil => 1
  | .ptr d => uptoBulk d + 1
  | .slice elems spare => uptoBulkAll elems + uptoBulkAll spare + 1
  | .agg parts => uptoBulkAll parts + 1
  | .iface _ d => uptoBulk d + 1
  | .map entries => uptoBulkEntries entries + 1
  | .held _ => 1
def uptoBulkAll {H : Type} : List (DataW H) → Nat
  | [] => 0
  | d :: r => uptoBulk d + uptoBulkAll r
def uptoBulkEntries {H : Type} : List (Lit × DataW H) → Nat
  | [] => 0
  | x :: r => uptoBulkEntry x + uptoBulkEntries r
def uptoBulkEntry {H : Type} : Lit × DataW H → Nat
  | (.string bytes, d) => bytes.length + uptoBulk d + 1
  | (_, d) => uptoBulk d + 1
 end
def uptoSmall : (H : Type) → List (DataW H) → Bool := fun _ ds => decide (uptoBulkAll ds ≤ 1048576)
def OpenSpec.upto (s : _root_.Go.ChangeSpec) : _root_.Go.OpenSpec := { _root_.Go.OpenSpec.ofChange s with cond := some uptoSmall }

/-- 'laws.FnExactEncodeOp', WHERE WHAT IT READS IS OF BULK AT MOST 1048576: true; the input reads as it did. -/
def fnExactEncodeOpUptoRow : OpenClaim := { program := "ythkoflpcinbgeaadoor", sum := "81526c758263049d12a30e37443853e67a4f99d6e119c9533ad4ade9cdcd17a7", func := "loop.example/s02533/laws.FnExactEncodeOp", spec := "fnExactEncodeOp", inPlace := ["internal/reflectlite.ValueOf", "(internal/reflectlite.Value).Type", "(internal/reflectlite.Value).IsNil", "internal/reflectlite.TypeOf", "(internal/reflectlite.Value).Elem", "(internal/reflectlite.Value).Set"], unfollowed := true, recurses := true, named := ["errors.errorType"], apart := false, laid := [("errors.errorType", laid_errors_errorType)], narrowed := true }
def FnExactEncodeOpUptoSaid : Prop := fnExactEncodeOpUptoRow.holds Tryd.pinned (OpenSpec.upto fnExactEncodeOpSpec)

/-- 'laws.FnExactDecodeOp', WHERE WHAT IT READS IS OF BULK AT MOST 1048576: true; the input reads as it did. -/
def fnExactDecodeOpUptoRow : OpenClaim := { program := "ythkoflpcinbgeaadoor", sum := "81526c758263049d12a30e37443853e67a4f99d6e119c9533ad4ade9cdcd17a7", func := "loop.example/s02533/laws.FnExactDecodeOp", spec := "fnExactDecodeOp", inPlace := ["internal/reflectlite.ValueOf", "(internal/reflectlite.Value).Type", "(internal/reflectlite.Value).IsNil", "internal/reflectlite.TypeOf", "(internal/reflectlite.Value).Elem", "(internal/reflectlite.Value).Set"], unfollowed := true, recurses := true, named := ["errors.errorType"], apart := false, laid := [("errors.errorType", laid_errors_errorType)], narrowed := true }
def FnExactDecodeOpUptoSaid : Prop := fnExactDecodeOpUptoRow.holds Tryd.pinned (OpenSpec.upto fnExactDecodeOpSpec)

/-- 'laws.FnExactLogRecord', WHERE WHAT IT READS IS OF BULK AT MOST 1048576: true; the input reads as it did. -/
def fnExactLogRecordUptoRow : OpenClaim := { program := "ythkoflpcinbgeaadoor", sum := "81526c758263049d12a30e37443853e67a4f99d6e119c9533ad4ade9cdcd17a7", func := "loop.example/s02533/laws.FnExactLogRecord", spec := "fnExactLogRecord", inPlace := ["internal/reflectlite.ValueOf", "(internal/reflectlite.Value).Type", "(internal/reflectlite.Value).IsNil", "internal/reflectlite.TypeOf", "(internal/reflectlite.Value).Elem", "(internal/reflectlite.Value).Set"], unfollowed := true, recurses := true, named := ["errors.errorType"], apart := false, laid := [("errors.errorType", laid_errors_errorType)], narrowed := true }
def FnExactLogRecordUptoSaid : Prop := fnExactLogRecordUptoRow.holds Tryd.pinned (OpenSpec.upto fnExactLogRecordSpec)

end Rows
end Go.Proofs.YthkoflpcinbgeaaDoor
