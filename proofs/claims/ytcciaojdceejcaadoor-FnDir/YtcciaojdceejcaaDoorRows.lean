/-
  NARROWER THAN 'FOR EVERY INPUT', by the rows' own cells (each row's printed sentence says how): FnExactDirCheck: laid · FnDir: laid · FnExactDirFind: laid · FnExactDirRemove: laid · FnExactDirList: laid · FnExactDirAdd: laid.
  DERIVED. THE GIVEN ROWS OF THIS SEAT. 6 by the template 'for every input the law returns true; each argument reads behind the call as it read before'; 0 by the template 'total and deterministic' (their statements: YtcciaojdceejcaaDoorTotals.lean).
  GIVEN WITH THE SEED: the statements are not yours to turn. If you find one false, say at which input.
  Laid BY PROGRAM, IN A SANDBOX (cutbox-rows.mjs): the forced cells as the released guide's own fill.sh prints them over the translation 722c38c3c64c9de2… (all of the seat's roots in one cut). By AI agents, Wed Nov 11 2026. No macro, syntax, notation, axiom, sorry.
-/
import Derived.Test.YtcciaojdceejcaaDoorChecked
import GoSem.Claim
import GoSem.ClaimJoined
import GoSem.ClaimMapViews
import Derived.JoinedTies
import Derived.KernelRfl
namespace Go.Proofs.YtcciaojdceejcaaDoor
/- THE CELL 'sum', in the pinned program and in every row, IS THE sha256 OF THE DUMP (.gsa) THAT YtcciaojdceejcaaDoorProg.lean LOADS. Nothing in Lean hashes anything: it is a label: what it is worth is what the hold of that sum in a sandbox is worth. -/
noncomputable def Tryd.pinned : Pinned := { name := "ytcciaojdceejcaadoor", sum := "722c38c3c64c9de2e79676fab3f759695ca75c2993b9774cb28b96a37e62e647", checked := Tryd.checked }
namespace Rows
def none {H : Type} : Left H := { results := [], args := [] }

/- WHAT THE LISTED PACKAGE-LEVEL VARIABLES READ AS WHEN THE CALL BEGINS. Each datum BY PROGRAM (the guide's laid-datum.mjs) off the statement by which the dump's own 'gosem.cut.vars' lays the variable. In a bare row this is a premise. The card (YtcciaojdceejcaaDoorCards.lean) ties it to the program's text. -/
def laid_errors_errorType {H : Type} : DataW H := .iface "internal/reflectlite.rtype" (.agg [.ptr (.lit (.string [101, 114, 114, 111, 114]))])

/-- 'laws.FnExactDirCheck': WHATEVER THE INPUT: true; the input reads as it did. -/
def fnExactDirCheckSpec : ChangeSpec := { name := "fnExactDirCheck", fn := fun _ => fun
  | [d] => { results := [.lit (.bool true)], args := [d] }
  | _ => none }
def fnExactDirCheckRow : OpenClaim := { program := "ytcciaojdceejcaadoor", sum := "722c38c3c64c9de2e79676fab3f759695ca75c2993b9774cb28b96a37e62e647", func := "loop.example/s02533/laws.FnExactDirCheck", spec := "fnExactDirCheck", inPlace := ["internal/reflectlite.ValueOf", "(internal/reflectlite.Value).Type", "(internal/reflectlite.Value).IsNil", "internal/reflectlite.TypeOf", "(internal/reflectlite.Value).Elem", "(internal/reflectlite.Value).Set"], unfollowed := true, recurses := true, named := ["errors.errorType"], apart := false, laid := [("errors.errorType", laid_errors_errorType)] }
def FnExactDirCheckSaid : Prop := fnExactDirCheckRow.holds Tryd.pinned (OpenSpec.ofChange fnExactDirCheckSpec)

/-- ITS FALSE NEIGHBOUR: 'it returns false'. Refute it at one input. -/
def fnExactDirCheckWrong : ChangeSpec := { name := "fnExactDirCheck", fn := fun _ => fun
  | [d] => { results := [.lit (.bool false)], args := [d] }
  | _ => none }
def FnExactDirCheckWrongFalsely : Prop := fnExactDirCheckRow.holds Tryd.pinned (OpenSpec.ofChange fnExactDirCheckWrong)

/-- 'laws.FnDir': WHATEVER THE INPUT: true; the input reads as it did. -/
def fnDirSpec : ChangeSpec := { name := "fnDir", fn := fun _ => fun
  | [d] => { results := [.lit (.bool true)], args := [d] }
  | _ => none }
def fnDirRow : OpenClaim := { program := "ytcciaojdceejcaadoor", sum := "722c38c3c64c9de2e79676fab3f759695ca75c2993b9774cb28b96a37e62e647", func := "loop.example/s02533/laws.FnDir", spec := "fnDir", inPlace := ["internal/reflectlite.ValueOf", "(internal/reflectlite.Value).Type", "(internal/reflectlite.Value).IsNil", "internal/reflectlite.TypeOf", "(internal/reflectlite.Value).Elem", "(internal/reflectlite.Value).Set", "internal/bytealg.abigen_runtime_cmpstring"], unfollowed := true, recurses := true, named := ["errors.errorType"], apart := false, laid := [("errors.errorType", laid_errors_errorType)] }
def FnDirSaid : Prop := fnDirRow.holds Tryd.pinned (OpenSpec.ofChange fnDirSpec)

/-- ITS FALSE NEIGHBOUR: 'it returns false'. Refute it at one input. -/
def fnDirWrong : ChangeSpec := { name := "fnDir", fn := fun _ => fun
  | [d] => { results := [.lit (.bool false)], args := [d] }
  | _ => none }
def FnDirWrongFalsely : Prop := fnDirRow.holds Tryd.pinned (OpenSpec.ofChange fnDirWrong)

/-- 'laws.FnExactDirFind': WHATEVER THE INPUT: true; the input reads as it did. -/
def fnExactDirFindSpec : ChangeSpec := { name := "fnExactDirFind", fn := fun _ => fun
  | [d1, d2] => { results := [.lit (.bool true)], args := [d1, d2] }
  | _ => none }
def fnExactDirFindRow : OpenClaim := { program := "ytcciaojdceejcaadoor", sum := "722c38c3c64c9de2e79676fab3f759695ca75c2993b9774cb28b96a37e62e647", func := "loop.example/s02533/laws.FnExactDirFind", spec := "fnExactDirFind", inPlace := ["internal/reflectlite.ValueOf", "(internal/reflectlite.Value).Type", "(internal/reflectlite.Value).IsNil", "internal/reflectlite.TypeOf", "(internal/reflectlite.Value).Elem", "(internal/reflectlite.Value).Set"], unfollowed := true, recurses := true, named := ["errors.errorType"], apart := false, laid := [("errors.errorType", laid_errors_errorType)] }
def FnExactDirFindSaid : Prop := fnExactDirFindRow.holds Tryd.pinned (OpenSpec.ofChange fnExactDirFindSpec)

/-- ITS FALSE NEIGHBOUR: 'it returns false'. Refute it at one input. -/
def fnExactDirFindWrong : ChangeSpec := { name := "fnExactDirFind", fn := fun _ => fun
  | [d1, d2] => { results := [.lit (.bool false)], args := [d1, d2] }
  | _ => none }
def FnExactDirFindWrongFalsely : Prop := fnExactDirFindRow.holds Tryd.pinned (OpenSpec.ofChange fnExactDirFindWrong)

/-- 'laws.FnExactDirRemove': WHATEVER THE INPUT: true; the input reads as it did. -/
def fnExactDirRemoveSpec : ChangeSpec := { name := "fnExactDirRemove", fn := fun _ => fun
  | [d1, d2] => { results := [.lit (.bool true)], args := [d1, d2] }
  | _ => none }
def fnExactDirRemoveRow : OpenClaim := { program := "ytcciaojdceejcaadoor", sum := "722c38c3c64c9de2e79676fab3f759695ca75c2993b9774cb28b96a37e62e647", func := "loop.example/s02533/laws.FnExactDirRemove", spec := "fnExactDirRemove", inPlace := ["internal/reflectlite.ValueOf", "(internal/reflectlite.Value).Type", "(internal/reflectlite.Value).IsNil", "internal/reflectlite.TypeOf", "(internal/reflectlite.Value).Elem", "(internal/reflectlite.Value).Set"], unfollowed := true, recurses := true, named := ["errors.errorType"], apart := false, laid := [("errors.errorType", laid_errors_errorType)] }
def FnExactDirRemoveSaid : Prop := fnExactDirRemoveRow.holds Tryd.pinned (OpenSpec.ofChange fnExactDirRemoveSpec)

/-- ITS FALSE NEIGHBOUR: 'it returns false'. Refute it at one input. -/
def fnExactDirRemoveWrong : ChangeSpec := { name := "fnExactDirRemove", fn := fun _ => fun
  | [d1, d2] => { results := [.lit (.bool false)], args := [d1, d2] }
  | _ => none }
def FnExactDirRemoveWrongFalsely : Prop := fnExactDirRemoveRow.holds Tryd.pinned (OpenSpec.ofChange fnExactDirRemoveWrong)

/-- 'laws.FnExactDirList': WHATEVER THE INPUT: true; the input reads as it did. -/
def fnExactDirListSpec : ChangeSpec := { name := "fnExactDirList", fn := fun _ => fun
  | [d] => { results := [.lit (.bool true)], args := [d] }
  | _ => none }
def fnExactDirListRow : OpenClaim := { program := "ytcciaojdceejcaadoor", sum := "722c38c3c64c9de2e79676fab3f759695ca75c2993b9774cb28b96a37e62e647", func := "loop.example/s02533/laws.FnExactDirList", spec := "fnExactDirList", inPlace := ["internal/reflectlite.ValueOf", "(internal/reflectlite.Value).Type", "(internal/reflectlite.Value).IsNil", "internal/reflectlite.TypeOf", "(internal/reflectlite.Value).Elem", "(internal/reflectlite.Value).Set", "internal/bytealg.abigen_runtime_cmpstring"], unfollowed := true, recurses := true, named := ["errors.errorType"], apart := false, laid := [("errors.errorType", laid_errors_errorType)] }
def FnExactDirListSaid : Prop := fnExactDirListRow.holds Tryd.pinned (OpenSpec.ofChange fnExactDirListSpec)

/-- ITS FALSE NEIGHBOUR: 'it returns false'. Refute it at one input. -/
def fnExactDirListWrong : ChangeSpec := { name := "fnExactDirList", fn := fun _ => fun
  | [d] => { results := [.lit (.bool false)], args := [d] }
  | _ => none }
def FnExactDirListWrongFalsely : Prop := fnExactDirListRow.holds Tryd.pinned (OpenSpec.ofChange fnExactDirListWrong)

/-- 'laws.FnExactDirAdd': WHATEVER THE INPUT: true; the input reads as it did. -/
def fnExactDirAddSpec : ChangeSpec := { name := "fnExactDirAdd", fn := fun _ => fun
  | [d1, d2] => { results := [.lit (.bool true)], args := [d1, d2] }
  | _ => none }
def fnExactDirAddRow : OpenClaim := { program := "ytcciaojdceejcaadoor", sum := "722c38c3c64c9de2e79676fab3f759695ca75c2993b9774cb28b96a37e62e647", func := "loop.example/s02533/laws.FnExactDirAdd", spec := "fnExactDirAdd", inPlace := ["internal/reflectlite.ValueOf", "(internal/reflectlite.Value).Type", "(internal/reflectlite.Value).IsNil", "internal/reflectlite.TypeOf", "(internal/reflectlite.Value).Elem", "(internal/reflectlite.Value).Set"], unfollowed := true, recurses := true, named := ["errors.errorType"], apart := false, laid := [("errors.errorType", laid_errors_errorType)] }
def FnExactDirAddSaid : Prop := fnExactDirAddRow.holds Tryd.pinned (OpenSpec.ofChange fnExactDirAddSpec)

/-- ITS FALSE NEIGHBOUR: 'it returns false'. Refute it at one input. -/
def fnExactDirAddWrong : ChangeSpec := { name := "fnExactDirAdd", fn := fun _ => fun
  | [d1, d2] => { results := [.lit (.bool false)], args := [d1, d2] }
  | _ => none }
def FnExactDirAddWrongFalsely : Prop := fnExactDirAddRow.holds Tryd.pinned (OpenSpec.ofChange fnExactDirAddWrong)

/- THE SECOND FORM. 'bulk': how many values and letters a reading holds, each counted each time it is reached (what is shared counts as often as it is met; a slice's spare places count too). A statement '..UptoSaid' is the law's where the arguments, and the package variables that the reading takes, are together of bulk at most 1048576: NARROWER than '..Said'. Prove '..Said' where nothing that the law and all that it calls make is longer than what came in: it says more and counts as full. Else prove '..UptoSaid'. A law counts once. -/
mutual
def uptoBulk {H : Type} : DataW H → Nat
  | .lit (.string bytes) => bytes.length + 1
  | .lit _ => 1
  | .nil => 1
  | .ptr d => uptoBulk d + 1
  | .slice elems spare => uptoBulkAll elems + uptoBulkAll spare + 1
  | .agg parts => uptoBulkAll parts + 1
  | .iface _ d => uptoBulk d + 1
  | .map entries => uptoBulkEntries entries + 1
  | .held _ => 1
def uptoBulkAll {H : Type} : List (DataW H) → Nat
  | [] => 0
  | d :: r => uptoBulk d + uptoBulkAll r
def uptoBulkEntries {H : Type} : List (Lit × DataW H) → Nat
  | [] => 0
  | x :: r => uptoBulkEntry x + uptoBulkEntries r
def uptoBulkEntry {H : Type} : Lit × DataW H → Nat
  | (.string bytes, d) => bytes.length + uptoBulk d + 1
  | (_, d) => uptoBulk d + 1
 end
def uptoSmall : (H : Type) → List (DataW H) → Bool := fun _ ds => decide (uptoBulkAll ds ≤ 1048576)
def OpenSpec.upto (s : _root_.Go.ChangeSpec) : _root_.Go.OpenSpec := { _root_.Go.OpenSpec.ofChange s with cond := some uptoSmall }

/-- 'laws.FnExactDirCheck', WHERE WHAT IT READS IS OF BULK AT MOST 1048576: true; the input reads as it did. -/
def fnExactDirCheckUptoRow : OpenClaim := { program := "ytcciaojdceejcaadoor", sum := "722c38c3c64c9de2e79676fab3f759695ca75c2993b9774cb28b96a37e62e647", func := "loop.example/s02533/laws.FnExactDirCheck", spec := "fnExactDirCheck", inPlace := ["internal/reflectlite.ValueOf", "(internal/reflectlite.Value).Type", "(internal/reflectlite.Value).IsNil", "internal/reflectlite.TypeOf", "(internal/reflectlite.Value).Elem", "(internal/reflectlite.Value).Set"], unfollowed := true, recurses := true, named := ["errors.errorType"], apart := false, laid := [("errors.errorType", laid_errors_errorType)], narrowed := true }
def FnExactDirCheckUptoSaid : Prop := fnExactDirCheckUptoRow.holds Tryd.pinned (OpenSpec.upto fnExactDirCheckSpec)

/-- 'laws.FnDir', WHERE WHAT IT READS IS OF BULK AT MOST 1048576: true; the input reads as it did. -/
def fnDirUptoRow : OpenClaim := { program := "ytcciaojdceejcaadoor", sum := "722c38c3c64c9de2e79676fab3f759695ca75c2993b9774cb28b96a37e62e647", func := "loop.example/s02533/laws.FnDir", spec := "fnDir", inPlace := ["internal/reflectlite.ValueOf", "(internal/reflectlite.Value).Type", "(internal/reflectlite.Value).IsNil", "internal/reflectlite.TypeOf", "(internal/reflectlite.Value).Elem", "(internal/reflectlite.Value).Set", "internal/bytealg.abigen_runtime_cmpstring"], unfollowed := true, recurses := true, named := ["errors.errorType"], apart := false, laid := [("errors.errorType", laid_errors_errorType)], narrowed := true }
def FnDirUptoSaid : Prop := fnDirUptoRow.holds Tryd.pinned (OpenSpec.upto fnDirSpec)

/-- 'laws.FnExactDirFind', WHERE WHAT IT READS IS OF BULK AT MOST 1048576: true; the input reads as it did. -/
def fnExactDirFindUptoRow : OpenClaim := { program := "ytcciaojdceejcaadoor", sum := "722c38c3c64c9de2e79676fab3f759695ca75c2993b9774cb28b96a37e62e647", func := "loop.example/s02533/laws.FnExactDirFind", spec := "fnExactDirFind", inPlace := ["internal/reflectlite.ValueOf", "(internal/reflectlite.Value).Type", "(internal/reflectlite.Value).IsNil", "internal/reflectlite.TypeOf", "(internal/reflectlite.Value).Elem", "(internal/reflectlite.Value).Set"], unfollowed := true, recurses := true, named := ["errors.errorType"], apart := false, laid := [("errors.errorType", laid_errors_errorType)], narrowed := true }
def FnExactDirFindUptoSaid : Prop := fnExactDirFindUptoRow.holds Tryd.pinned (OpenSpec.upto fnExactDirFindSpec)

/-- 'laws.FnExactDirRemove', WHERE WHAT IT READS IS OF BULK AT MOST 1048576: true; the input reads as it did. -/
def fnExactDirRemoveUptoRow : OpenClaim := { program := "ytcciaojdceejcaadoor", sum := "722c38c3c64c9de2e79676fab3f759695ca75c2993b9774cb28b96a37e62e647", func := "loop.example/s02533/laws.FnExactDirRemove", spec := "fnExactDirRemove", inPlace := ["internal/reflectlite.ValueOf", "(internal/reflectlite.Value).Type", "(internal/reflectlite.Value).IsNil", "internal/reflectlite.TypeOf", "(internal/reflectlite.Value).Elem", "(internal/reflectlite.Value).Set"], unfollowed := true, recurses := true, named := ["errors.errorType"], apart := false, laid := [("errors.errorType", laid_errors_errorType)], narrowed := true }
def FnExactDirRemoveUptoSaid : Prop := fnExactDirRemoveUptoRow.holds Tryd.pinned (OpenSpec.upto fnExactDirRemoveSpec)

/-- 'laws.FnExactDirList', WHERE WHAT IT READS IS OF BULK AT MOST 1048576: true; the input reads as it did. -/
def fnExactDirListUptoRow : OpenClaim := { program := "ytcciaojdceejcaadoor", sum := "722c38c3c64c9de2e79676fab3f759695ca75c2993b9774cb28b96a37e62e647", func := "loop.example/s02533/laws.FnExactDirList", spec := "fnExactDirList", inPlace := ["internal/reflectlite.ValueOf", "(internal/reflectlite.Value).Type", "(internal/reflectlite.Value).IsNil", "internal/reflectlite.TypeOf", "(internal/reflectlite.Value).Elem", "(internal/reflectlite.Value).Set", "internal/bytealg.abigen_runtime_cmpstring"], unfollowed := true, recurses := true, named := ["errors.errorType"], apart := false, laid := [("errors.errorType", laid_errors_errorType)], narrowed := true }
def FnExactDirListUptoSaid : Prop := fnExactDirListUptoRow.holds Tryd.pinned (OpenSpec.upto fnExactDirListSpec)

/-- 'laws.FnExactDirAdd', WHERE WHAT IT READS IS OF BULK AT MOST 1048576: true; the input reads as it did. -/
def fnExactDirAddUptoRow : OpenClaim := { program := "ytcciaojdceejcaadoor", sum := "722c38c3c64c9de2e79676fab3f759695ca75c2993b9774cb28b96a37e62e647", func := "loop.example/s02533/laws.FnExactDirAdd", spec := "fnExactDirAdd", inPlace := ["internal/reflectlite.ValueOf", "(internal/reflectlite.Value).Type", "(internal/reflectlite.Value).IsNil", "internal/reflectlite.TypeOf", "(internal/reflectlite.Value).Elem", "(internal/reflectlite.Value).Set"], unfollowed := true, recurses := true, named := ["errors.errorType"], apart := false, laid := [("errors.errorType", laid_errors_errorType)], narrowed := true }
def FnExactDirAddUptoSaid : Prop := fnExactDirAddUptoRow.holds Tryd.pinned (OpenSpec.upto fnExactDirAddSpec)

end Rows
end Go.Proofs.YtcciaojdceejcaaDoor
