/-
  NARROWER THAN 'FOR EVERY INPUT', by the rows' own cells (each row's printed sentence says how): FnExactEncodeWords: laid · FnExactEncodeRoot: laid · FnExactDecodeRoot: laid · FnExactEncodeInode: laid · FnExactDecodeInode: laid · FnExactEncodeFsinfo: laid · FnExactEncodeSnap: laid · FnExactDecodeSnap: laid · FnExactDecodeFsinfo: laid.
  DERIVED. THE GIVEN ROWS OF THIS SEAT. 9 by the template 'for every input the law returns true; each argument reads behind the call as it read before'; 0 by the template 'total and deterministic' (their statements: YtfpfhmnmcjnmaaaDoorTotals.lean).
  GIVEN WITH THE SEED: the statements are not yours to turn. If you find one false, say at which input.
  Laid BY PROGRAM, IN A SANDBOX (cutbox-rows.mjs): the forced cells as the released guide's own fill.sh prints them over the translation c7cdad158f1086c2… (all of the seat's roots in one cut). By AI agents, Wed Nov 11 2026. No macro, syntax, notation, axiom, sorry.
-/
import Derived.Test.YtfpfhmnmcjnmaaaDoorChecked
import GoSem.Claim
import GoSem.ClaimJoined
import GoSem.ClaimMapViews
import Derived.JoinedTies
import Derived.KernelRfl
namespace Go.Proofs.YtfpfhmnmcjnmaaaDoor
/- THE CELL 'sum', in the pinned program and in every row, IS THE sha256 OF THE DUMP (.gsa) THAT YtfpfhmnmcjnmaaaDoorProg.lean LOADS. Nothing in Lean hashes anything: it is a label: what it is worth is what the hold of that sum in a sandbox is worth. -/
noncomputable def Tryd.pinned : Pinned := { name := "ytfpfhmnmcjnmaaadoor", sum := "c7cdad158f1086c27bf22edb3b72cf2d294091da79fc93fb00258cd6ebc58573", checked := Tryd.checked }
namespace Rows
def none {H : Type} : Left H := { results := [], args := [] }

/- WHAT THE LISTED PACKAGE-LEVEL VARIABLES READ AS WHEN THE CALL BEGINS. Each datum BY PROGRAM (the guide's laid-datum.mjs) off the statement by which the dump's own 'gosem.cut.vars' lays the variable. In a bare row this is a premise. The card (YtfpfhmnmcjnmaaaDoorCards.lean) ties it to the program's text. -/
def laid_errors_errorType {H : Type} : DataW H := .iface "internal/reflectlite.rtype" (.agg [.ptr (.lit (.string [101, 114, 114, 111, 114]))])
def laid_loop_example_s02533_impl_fsinfoLetters {H : Type} : DataW H := .agg [.lit (.int .u8 114), .lit (.int .u8 111), .lit (.int .u8 111), .lit (.int .u8 116), .lit (.int .u8 114), .lit (.int .u8 101), .lit (.int .u8 99), .lit (.int .u8 49)]
def laid_loop_example_s02533_impl_snapLetters {H : Type} : DataW H := .agg [.lit (.int .u8 115), .lit (.int .u8 110), .lit (.int .u8 97), .lit (.int .u8 112), .lit (.int .u8 115), .lit (.int .u8 104), .lit (.int .u8 111), .lit (.int .u8 116)]

/-- 'laws.FnExactEncodeWords': WHATEVER THE INPUT: true; the input reads as it did. -/
def fnExactEncodeWordsSpec : ChangeSpec := { name := "fnExactEncodeWords", fn := fun _ => fun
  | [d] => { results := [.lit (.bool true)], args := [d] }
  | _ => none }
def fnExactEncodeWordsRow : OpenClaim := { program := "ytfpfhmnmcjnmaaadoor", sum := "c7cdad158f1086c27bf22edb3b72cf2d294091da79fc93fb00258cd6ebc58573", func := "loop.example/s02533/laws.FnExactEncodeWords", spec := "fnExactEncodeWords", inPlace := ["internal/reflectlite.ValueOf", "(internal/reflectlite.Value).Type", "(internal/reflectlite.Value).IsNil", "internal/reflectlite.TypeOf", "(internal/reflectlite.Value).Elem", "(internal/reflectlite.Value).Set"], unfollowed := true, recurses := true, named := ["errors.errorType"], apart := false, laid := [("errors.errorType", laid_errors_errorType)] }
def FnExactEncodeWordsSaid : Prop := fnExactEncodeWordsRow.holds Tryd.pinned (OpenSpec.ofChange fnExactEncodeWordsSpec)

/-- ITS FALSE NEIGHBOUR: 'it returns false'. Refute it at one input. -/
def fnExactEncodeWordsWrong : ChangeSpec := { name := "fnExactEncodeWords", fn := fun _ => fun
  | [d] => { results := [.lit (.bool false)], args := [d] }
  | _ => none }
def FnExactEncodeWordsWrongFalsely : Prop := fnExactEncodeWordsRow.holds Tryd.pinned (OpenSpec.ofChange fnExactEncodeWordsWrong)

/-- 'laws.FnExactEncodeRoot': WHATEVER THE INPUT: true; the input reads as it did. -/
def fnExactEncodeRootSpec : ChangeSpec := { name := "fnExactEncodeRoot", fn := fun _ => fun
  | [d] => { results := [.lit (.bool true)], args := [d] }
  | _ => none }
def fnExactEncodeRootRow : OpenClaim := { program := "ytfpfhmnmcjnmaaadoor", sum := "c7cdad158f1086c27bf22edb3b72cf2d294091da79fc93fb00258cd6ebc58573", func := "loop.example/s02533/laws.FnExactEncodeRoot", spec := "fnExactEncodeRoot", inPlace := ["internal/reflectlite.ValueOf", "(internal/reflectlite.Value).Type", "(internal/reflectlite.Value).IsNil", "internal/reflectlite.TypeOf", "(internal/reflectlite.Value).Elem", "(internal/reflectlite.Value).Set"], unfollowed := true, recurses := true, named := ["errors.errorType"], apart := false, laid := [("errors.errorType", laid_errors_errorType)] }
def FnExactEncodeRootSaid : Prop := fnExactEncodeRootRow.holds Tryd.pinned (OpenSpec.ofChange fnExactEncodeRootSpec)

/-- ITS FALSE NEIGHBOUR: 'it returns false'. Refute it at one input. -/
def fnExactEncodeRootWrong : ChangeSpec := { name := "fnExactEncodeRoot", fn := fun _ => fun
  | [d] => { results := [.lit (.bool false)], args := [d] }
  | _ => none }
def FnExactEncodeRootWrongFalsely : Prop := fnExactEncodeRootRow.holds Tryd.pinned (OpenSpec.ofChange fnExactEncodeRootWrong)

/-- 'laws.FnExactDecodeRoot': WHATEVER THE INPUT: true; the input reads as it did. -/
def fnExactDecodeRootSpec : ChangeSpec := { name := "fnExactDecodeRoot", fn := fun _ => fun
  | [d] => { results := [.lit (.bool true)], args := [d] }
  | _ => none }
def fnExactDecodeRootRow : OpenClaim := { program := "ytfpfhmnmcjnmaaadoor", sum := "c7cdad158f1086c27bf22edb3b72cf2d294091da79fc93fb00258cd6ebc58573", func := "loop.example/s02533/laws.FnExactDecodeRoot", spec := "fnExactDecodeRoot", inPlace := ["internal/reflectlite.ValueOf", "(internal/reflectlite.Value).Type", "(internal/reflectlite.Value).IsNil", "internal/reflectlite.TypeOf", "(internal/reflectlite.Value).Elem", "(internal/reflectlite.Value).Set"], unfollowed := true, recurses := true, named := ["errors.errorType"], apart := false, laid := [("errors.errorType", laid_errors_errorType)] }
def FnExactDecodeRootSaid : Prop := fnExactDecodeRootRow.holds Tryd.pinned (OpenSpec.ofChange fnExactDecodeRootSpec)

/-- ITS FALSE NEIGHBOUR: 'it returns false'. Refute it at one input. -/
def fnExactDecodeRootWrong : ChangeSpec := { name := "fnExactDecodeRoot", fn := fun _ => fun
  | [d] => { results := [.lit (.bool false)], args := [d] }
  | _ => none }
def FnExactDecodeRootWrongFalsely : Prop := fnExactDecodeRootRow.holds Tryd.pinned (OpenSpec.ofChange fnExactDecodeRootWrong)

/-- 'laws.FnExactEncodeInode': WHATEVER THE INPUT: true; the input reads as it did. -/
def fnExactEncodeInodeSpec : ChangeSpec := { name := "fnExactEncodeInode", fn := fun _ => fun
  | [d] => { results := [.lit (.bool true)], args := [d] }
  | _ => none }
def fnExactEncodeInodeRow : OpenClaim := { program := "ytfpfhmnmcjnmaaadoor", sum := "c7cdad158f1086c27bf22edb3b72cf2d294091da79fc93fb00258cd6ebc58573", func := "loop.example/s02533/laws.FnExactEncodeInode", spec := "fnExactEncodeInode", inPlace := ["internal/reflectlite.ValueOf", "(internal/reflectlite.Value).Type", "(internal/reflectlite.Value).IsNil", "internal/reflectlite.TypeOf", "(internal/reflectlite.Value).Elem", "(internal/reflectlite.Value).Set"], unfollowed := true, recurses := true, named := ["errors.errorType"], apart := false, laid := [("errors.errorType", laid_errors_errorType)] }
def FnExactEncodeInodeSaid : Prop := fnExactEncodeInodeRow.holds Tryd.pinned (OpenSpec.ofChange fnExactEncodeInodeSpec)

/-- ITS FALSE NEIGHBOUR: 'it returns false'. Refute it at one input. -/
def fnExactEncodeInodeWrong : ChangeSpec := { name := "fnExactEncodeInode", fn := fun _ => fun
  | [d] => { results := [.lit (.bool false)], args := [d] }
  | _ => none }
def FnExactEncodeInodeWrongFalsely : Prop := fnExactEncodeInodeRow.holds Tryd.pinned (OpenSpec.ofChange fnExactEncodeInodeWrong)

/-- 'laws.FnExactDecodeInode': WHATEVER THE INPUT: true; the input reads as it did. -/
def fnExactDecodeInodeSpec : ChangeSpec := { name := "fnExactDecodeInode", fn := fun _ => fun
  | [d] => { results := [.lit (.bool true)], args := [d] }
  | _ => none }
def fnExactDecodeInodeRow : OpenClaim := { program := "ytfpfhmnmcjnmaaadoor", sum := "c7cdad158f1086c27bf22edb3b72cf2d294091da79fc93fb00258cd6ebc58573", func := "loop.example/s02533/laws.FnExactDecodeInode", spec := "fnExactDecodeInode", inPlace := ["internal/reflectlite.ValueOf", "(internal/reflectlite.Value).Type", "(internal/reflectlite.Value).IsNil", "internal/reflectlite.TypeOf", "(internal/reflectlite.Value).Elem", "(internal/reflectlite.Value).Set"], unfollowed := true, recurses := true, named := ["errors.errorType"], apart := false, laid := [("errors.errorType", laid_errors_errorType)] }
def FnExactDecodeInodeSaid : Prop := fnExactDecodeInodeRow.holds Tryd.pinned (OpenSpec.ofChange fnExactDecodeInodeSpec)

/-- ITS FALSE NEIGHBOUR: 'it returns false'. Refute it at one input. -/
def fnExactDecodeInodeWrong : ChangeSpec := { name := "fnExactDecodeInode", fn := fun _ => fun
  | [d] => { results := [.lit (.bool false)], args := [d] }
  | _ => none }
def FnExactDecodeInodeWrongFalsely : Prop := fnExactDecodeInodeRow.holds Tryd.pinned (OpenSpec.ofChange fnExactDecodeInodeWrong)

/-- 'laws.FnExactEncodeFsinfo': WHATEVER THE INPUT: true; the input reads as it did. -/
def fnExactEncodeFsinfoSpec : ChangeSpec := { name := "fnExactEncodeFsinfo", vars := ["loop.example/s02533/impl.fsinfoLetters"], fn := fun _ => fun
  | [d, g1] => { results := [.lit (.bool true)], args := [d], vars := [g1] }
  | _ => none }
def fnExactEncodeFsinfoRow : OpenClaim := { program := "ytfpfhmnmcjnmaaadoor", sum := "c7cdad158f1086c27bf22edb3b72cf2d294091da79fc93fb00258cd6ebc58573", func := "loop.example/s02533/laws.FnExactEncodeFsinfo", spec := "fnExactEncodeFsinfo", inPlace := ["internal/reflectlite.ValueOf", "(internal/reflectlite.Value).Type", "(internal/reflectlite.Value).IsNil", "internal/reflectlite.TypeOf", "(internal/reflectlite.Value).Elem", "(internal/reflectlite.Value).Set"], unfollowed := true, recurses := true, named := ["errors.errorType", "loop.example/s02533/impl.fsinfoLetters"], apart := false, laid := [("errors.errorType", laid_errors_errorType), ("loop.example/s02533/impl.fsinfoLetters", laid_loop_example_s02533_impl_fsinfoLetters)] }
def FnExactEncodeFsinfoSaid : Prop := fnExactEncodeFsinfoRow.holds Tryd.pinned (OpenSpec.ofChange fnExactEncodeFsinfoSpec)

/-- ITS FALSE NEIGHBOUR: 'it returns false'. Refute it at one input. -/
def fnExactEncodeFsinfoWrong : ChangeSpec := { name := "fnExactEncodeFsinfo", vars := ["loop.example/s02533/impl.fsinfoLetters"], fn := fun _ => fun
  | [d, g1] => { results := [.lit (.bool false)], args := [d], vars := [g1] }
  | _ => none }
def FnExactEncodeFsinfoWrongFalsely : Prop := fnExactEncodeFsinfoRow.holds Tryd.pinned (OpenSpec.ofChange fnExactEncodeFsinfoWrong)

/-- 'laws.FnExactEncodeSnap': WHATEVER THE INPUT: true; the input reads as it did. -/
def fnExactEncodeSnapSpec : ChangeSpec := { name := "fnExactEncodeSnap", vars := ["loop.example/s02533/impl.snapLetters"], fn := fun _ => fun
  | [d, g1] => { results := [.lit (.bool true)], args := [d], vars := [g1] }
  | _ => none }
def fnExactEncodeSnapRow : OpenClaim := { program := "ytfpfhmnmcjnmaaadoor", sum := "c7cdad158f1086c27bf22edb3b72cf2d294091da79fc93fb00258cd6ebc58573", func := "loop.example/s02533/laws.FnExactEncodeSnap", spec := "fnExactEncodeSnap", inPlace := ["internal/reflectlite.ValueOf", "(internal/reflectlite.Value).Type", "(internal/reflectlite.Value).IsNil", "internal/reflectlite.TypeOf", "(internal/reflectlite.Value).Elem", "(internal/reflectlite.Value).Set"], unfollowed := true, recurses := true, named := ["errors.errorType", "loop.example/s02533/impl.snapLetters"], apart := false, laid := [("errors.errorType", laid_errors_errorType), ("loop.example/s02533/impl.snapLetters", laid_loop_example_s02533_impl_snapLetters)] }
def FnExactEncodeSnapSaid : Prop := fnExactEncodeSnapRow.holds Tryd.pinned (OpenSpec.ofChange fnExactEncodeSnapSpec)

/-- ITS FALSE NEIGHBOUR: 'it returns false'. Refute it at one input. -/
def fnExactEncodeSnapWrong : ChangeSpec := { name := "fnExactEncodeSnap", vars := ["loop.example/s02533/impl.snapLetters"], fn := fun _ => fun
  | [d, g1] => { results := [.lit (.bool false)], args := [d], vars := [g1] }
  | _ => none }
def FnExactEncodeSnapWrongFalsely : Prop := fnExactEncodeSnapRow.holds Tryd.pinned (OpenSpec.ofChange fnExactEncodeSnapWrong)

/-- 'laws.FnExactDecodeSnap': WHATEVER THE INPUT: true; the input reads as it did. -/
def fnExactDecodeSnapSpec : ChangeSpec := { name := "fnExactDecodeSnap", vars := ["loop.example/s02533/impl.snapLetters"], fn := fun _ => fun
  | [d, g1] => { results := [.lit (.bool true)], args := [d], vars := [g1] }
  | _ => none }
def fnExactDecodeSnapRow : OpenClaim := { program := "ytfpfhmnmcjnmaaadoor", sum := "c7cdad158f1086c27bf22edb3b72cf2d294091da79fc93fb00258cd6ebc58573", func := "loop.example/s02533/laws.FnExactDecodeSnap", spec := "fnExactDecodeSnap", inPlace := ["internal/reflectlite.ValueOf", "(internal/reflectlite.Value).Type", "(internal/reflectlite.Value).IsNil", "internal/reflectlite.TypeOf", "(internal/reflectlite.Value).Elem", "(internal/reflectlite.Value).Set"], unfollowed := true, recurses := true, named := ["loop.example/s02533/impl.snapLetters", "errors.errorType"], apart := false, laid := [("errors.errorType", laid_errors_errorType), ("loop.example/s02533/impl.snapLetters", laid_loop_example_s02533_impl_snapLetters)] }
def FnExactDecodeSnapSaid : Prop := fnExactDecodeSnapRow.holds Tryd.pinned (OpenSpec.ofChange fnExactDecodeSnapSpec)

/-- ITS FALSE NEIGHBOUR: 'it returns false'. Refute it at one input. -/
def fnExactDecodeSnapWrong : ChangeSpec := { name := "fnExactDecodeSnap", vars := ["loop.example/s02533/impl.snapLetters"], fn := fun _ => fun
  | [d, g1] => { results := [.lit (.bool false)], args := [d], vars := [g1] }
  | _ => none }
def FnExactDecodeSnapWrongFalsely : Prop := fnExactDecodeSnapRow.holds Tryd.pinned (OpenSpec.ofChange fnExactDecodeSnapWrong)

/-- 'laws.FnExactDecodeFsinfo': WHATEVER THE INPUT: true; the input reads as it did. -/
def fnExactDecodeFsinfoSpec : ChangeSpec := { name := "fnExactDecodeFsinfo", vars := ["loop.example/s02533/impl.fsinfoLetters"], fn := fun _ => fun
  | [d, g1] => { results := [.lit (.bool true)], args := [d], vars := [g1] }
  | _ => none }
def fnExactDecodeFsinfoRow : OpenClaim := { program := "ytfpfhmnmcjnmaaadoor", sum := "c7cdad158f1086c27bf22edb3b72cf2d294091da79fc93fb00258cd6ebc58573", func := "loop.example/s02533/laws.FnExactDecodeFsinfo", spec := "fnExactDecodeFsinfo", inPlace := ["internal/reflectlite.ValueOf", "(internal/reflectlite.Value).Type", "(internal/reflectlite.Value).IsNil", "internal/reflectlite.TypeOf", "(internal/reflectlite.Value).Elem", "(internal/reflectlite.Value).Set"], unfollowed := true, recurses := true, named := ["loop.example/s02533/impl.fsinfoLetters", "errors.errorType"], apart := false, laid := [("errors.errorType", laid_errors_errorType), ("loop.example/s02533/impl.fsinfoLetters", laid_loop_example_s02533_impl_fsinfoLetters)] }
def FnExactDecodeFsinfoSaid : Prop := fnExactDecodeFsinfoRow.holds Tryd.pinned (OpenSpec.ofChange fnExactDecodeFsinfoSpec)

/-- ITS FALSE NEIGHBOUR: 'it returns false'. Refute it at one input. -/
def fnExactDecodeFsinfoWrong : ChangeSpec := { name := "fnExactDecodeFsinfo", vars := ["loop.example/s02533/impl.fsinfoLetters"], fn := fun _ => fun
  | [d, g1] => { results := [.lit (.bool false)], args := [d], vars := [g1] }
  | _ => none }
def FnExactDecodeFsinfoWrongFalsely : Prop := fnExactDecodeFsinfoRow.holds Tryd.pinned (OpenSpec.ofChange fnExactDecodeFsinfoWrong)

/- THE SECOND FORM. 'bulk': how many values and letters a reading holds, each counted each time it is reached (what is shared counts as often as it is met; a slice's spare places count too). A statement '..UptoSaid' is the law's where the arguments, and the package variables that the reading takes, are together of bulk at most 1048576: NARROWER than '..Said'. Prove '..Said' where nothing that the law and all that it calls make is longer than what came in: it says more and counts as full. Else prove '..UptoSaid'. A law counts once. -/
mutual
def uptoBulk {H : Type} : DataW H → Nat
  | .lit (.string bytes) => bytes.length + 1
  | .lit _ => 1
  | .nil => 1
  | .ptr d => uptoBulk d + 1
  | .slice elems spare => uptoBulkAll elems + uptoBulkAll spare + 1
  | .agg parts => uptoBulkAll parts + 1
  | .iface _ d => uptoBulk d + 1
  | .map entries => uptoBulkEntries entries + 1
  | .held _ => 1
def uptoBulkAll {H : Type} : List (DataW H) → Nat
  | [] => 0
  | d :: r => uptoBulk d + uptoBulkAll r
def uptoBulkEntries {H : Type} : List (Lit × DataW H) → Nat
  | [] => 0
  | x :: r => uptoBulkEntry x + uptoBulkEntries r
def uptoBulkEntry {H : Type} : Lit × DataW H → Nat
  | (.string bytes, d) => bytes.length + uptoBulk d + 1
  | (_, d) => uptoBulk d + 1
 end
def uptoSmall : (H : Type) → List (DataW H) → Bool := fun _ ds => decide (uptoBulkAll ds ≤ 1048576)
def OpenSpec.upto (s : _root_.Go.ChangeSpec) : _root_.Go.OpenSpec := { _root_.Go.OpenSpec.ofChange s with cond := some uptoSmall }

/-- 'laws.FnExactEncodeWords', WHERE WHAT IT READS IS OF BULK AT MOST 1048576: true; the input reads as it did. -/
def fnExactEncodeWordsUptoRow : OpenClaim := { program := "ytfpfhmnmcjnmaaadoor", sum := "c7cdad158f1086c27bf22edb3b72cf2d294091da79fc93fb00258cd6ebc58573", func := "loop.example/s02533/laws.FnExactEncodeWords", spec := "fnExactEncodeWords", inPlace := ["internal/reflectlite.ValueOf", "(internal/reflectlite.Value).Type", "(internal/reflectlite.Value).IsNil", "internal/reflectlite.TypeOf", "(internal/reflectlite.Value).Elem", "(internal/reflectlite.Value).Set"], unfollowed := true, recurses := true, named := ["errors.errorType"], apart := false, laid := [("errors.errorType", laid_errors_errorType)], narrowed := true }
def FnExactEncodeWordsUptoSaid : Prop := fnExactEncodeWordsUptoRow.holds Tryd.pinned (OpenSpec.upto fnExactEncodeWordsSpec)

/-- 'laws.FnExactEncodeRoot', WHERE WHAT IT READS IS OF BULK AT MOST 1048576: true; the input reads as it did. -/
def fnExactEncodeRootUptoRow : OpenClaim := { program := "ytfpfhmnmcjnmaaadoor", sum := "c7cdad158f1086c27bf22edb3b72cf2d294091da79fc93fb00258cd6ebc58573", func := "loop.example/s02533/laws.FnExactEncodeRoot", spec := "fnExactEncodeRoot", inPlace := ["internal/reflectlite.ValueOf", "(internal/reflectlite.Value).Type", "(internal/reflectlite.Value).IsNil", "internal/reflectlite.TypeOf", "(internal/reflectlite.Value).Elem", "(internal/reflectlite.Value).Set"], unfollowed := true, recurses := true, named := ["errors.errorType"], apart := false, laid := [("errors.errorType", laid_errors_errorType)], narrowed := true }
def FnExactEncodeRootUptoSaid : Prop := fnExactEncodeRootUptoRow.holds Tryd.pinned (OpenSpec.upto fnExactEncodeRootSpec)

/-- 'laws.FnExactDecodeRoot', WHERE WHAT IT READS IS OF BULK AT MOST 1048576: true; the input reads as it did. -/
def fnExactDecodeRootUptoRow : OpenClaim := { program := "ytfpfhmnmcjnmaaadoor", sum := "c7cdad158f1086c27bf22edb3b72cf2d294091da79fc93fb00258cd6ebc58573", func := "loop.example/s02533/laws.FnExactDecodeRoot", spec := "fnExactDecodeRoot", inPlace := ["internal/reflectlite.ValueOf", "(internal/reflectlite.Value).Type", "(internal/reflectlite.Value).IsNil", "internal/reflectlite.TypeOf", "(internal/reflectlite.Value).Elem", "(internal/reflectlite.Value).Set"], unfollowed := true, recurses := true, named := ["errors.errorType"], apart := false, laid := [("errors.errorType", laid_errors_errorType)], narrowed := true }
def FnExactDecodeRootUptoSaid : Prop := fnExactDecodeRootUptoRow.holds Tryd.pinned (OpenSpec.upto fnExactDecodeRootSpec)

/-- 'laws.FnExactEncodeInode', WHERE WHAT IT READS IS OF BULK AT MOST 1048576: true; the input reads as it did. -/
def fnExactEncodeInodeUptoRow : OpenClaim := { program := "ytfpfhmnmcjnmaaadoor", sum := "c7cdad158f1086c27bf22edb3b72cf2d294091da79fc93fb00258cd6ebc58573", func := "loop.example/s02533/laws.FnExactEncodeInode", spec := "fnExactEncodeInode", inPlace := ["internal/reflectlite.ValueOf", "(internal/reflectlite.Value).Type", "(internal/reflectlite.Value).IsNil", "internal/reflectlite.TypeOf", "(internal/reflectlite.Value).Elem", "(internal/reflectlite.Value).Set"], unfollowed := true, recurses := true, named := ["errors.errorType"], apart := false, laid := [("errors.errorType", laid_errors_errorType)], narrowed := true }
def FnExactEncodeInodeUptoSaid : Prop := fnExactEncodeInodeUptoRow.holds Tryd.pinned (OpenSpec.upto fnExactEncodeInodeSpec)

/-- 'laws.FnExactDecodeInode', WHERE WHAT IT READS IS OF BULK AT MOST 1048576: true; the input reads as it did. -/
def fnExactDecodeInodeUptoRow : OpenClaim := { program := "ytfpfhmnmcjnmaaadoor", sum := "c7cdad158f1086c27bf22edb3b72cf2d294091da79fc93fb00258cd6ebc58573", func := "loop.example/s02533/laws.FnExactDecodeInode", spec := "fnExactDecodeInode", inPlace := ["internal/reflectlite.ValueOf", "(internal/reflectlite.Value).Type", "(internal/reflectlite.Value).IsNil", "internal/reflectlite.TypeOf", "(internal/reflectlite.Value).Elem", "(internal/reflectlite.Value).Set"], unfollowed := true, recurses := true, named := ["errors.errorType"], apart := false, laid := [("errors.errorType", laid_errors_errorType)], narrowed := true }
def FnExactDecodeInodeUptoSaid : Prop := fnExactDecodeInodeUptoRow.holds Tryd.pinned (OpenSpec.upto fnExactDecodeInodeSpec)

/-- 'laws.FnExactEncodeFsinfo', WHERE WHAT IT READS IS OF BULK AT MOST 1048576: true; the input reads as it did. -/
def fnExactEncodeFsinfoUptoRow : OpenClaim := { program := "ytfpfhmnmcjnmaaadoor", sum := "c7cdad158f1086c27bf22edb3b72cf2d294091da79fc93fb00258cd6ebc58573", func := "loop.example/s02533/laws.FnExactEncodeFsinfo", spec := "fnExactEncodeFsinfo", inPlace := ["internal/reflectlite.ValueOf", "(internal/reflectlite.Value).Type", "(internal/reflectlite.Value).IsNil", "internal/reflectlite.TypeOf", "(internal/reflectlite.Value).Elem", "(internal/reflectlite.Value).Set"], unfollowed := true, recurses := true, named := ["errors.errorType", "loop.example/s02533/impl.fsinfoLetters"], apart := false, laid := [("errors.errorType", laid_errors_errorType), ("loop.example/s02533/impl.fsinfoLetters", laid_loop_example_s02533_impl_fsinfoLetters)], narrowed := true }
def FnExactEncodeFsinfoUptoSaid : Prop := fnExactEncodeFsinfoUptoRow.holds Tryd.pinned (OpenSpec.upto fnExactEncodeFsinfoSpec)

/-- 'laws.FnExactEncodeSnap', WHERE WHAT IT READS IS OF BULK AT MOST 1048576: true; the input reads as it did. -/
def fnExactEncodeSnapUptoRow : OpenClaim := { program := "ytfpfhmnmcjnmaaadoor", sum := "c7cdad158f1086c27bf22edb3b72cf2d294091da79fc93fb00258cd6ebc58573", func := "loop.example/s02533/laws.FnExactEncodeSnap", spec := "fnExactEncodeSnap", inPlace := ["internal/reflectlite.ValueOf", "(internal/reflectlite.Value).Type", "(internal/reflectlite.Value).IsNil", "internal/reflectlite.TypeOf", "(internal/reflectlite.Value).Elem", "(internal/reflectlite.Value).Set"], unfollowed := true, recurses := true, named := ["errors.errorType", "loop.example/s02533/impl.snapLetters"], apart := false, laid := [("errors.errorType", laid_errors_errorType), ("loop.example/s02533/impl.snapLetters", laid_loop_example_s02533_impl_snapLetters)], narrowed := true }
def FnExactEncodeSnapUptoSaid : Prop := fnExactEncodeSnapUptoRow.holds Tryd.pinned (OpenSpec.upto fnExactEncodeSnapSpec)

/-- 'laws.FnExactDecodeSnap', WHERE WHAT IT READS IS OF BULK AT MOST 1048576: true; the input reads as it did. -/
def fnExactDecodeSnapUptoRow : OpenClaim := { program := "ytfpfhmnmcjnmaaadoor", sum := "c7cdad158f1086c27bf22edb3b72cf2d294091da79fc93fb00258cd6ebc58573", func := "loop.example/s02533/laws.FnExactDecodeSnap", spec := "fnExactDecodeSnap", inPlace := ["internal/reflectlite.ValueOf", "(internal/reflectlite.Value).Type", "(internal/reflectlite.Value).IsNil", "internal/reflectlite.TypeOf", "(internal/reflectlite.Value).Elem", "(internal/reflectlite.Value).Set"], unfollowed := true, recurses := true, named := ["loop.example/s02533/impl.snapLetters", "errors.errorType"], apart := false, laid := [("errors.errorType", laid_errors_errorType), ("loop.example/s02533/impl.snapLetters", laid_loop_example_s02533_impl_snapLetters)], narrowed := true }
def FnExactDecodeSnapUptoSaid : Prop := fnExactDecodeSnapUptoRow.holds Tryd.pinned (OpenSpec.upto fnExactDecodeSnapSpec)

/-- 'laws.FnExactDecodeFsinfo', WHERE WHAT IT READS IS OF BULK AT MOST 1048576: true; the input reads as it did. -/
def fnExactDecodeFsinfoUptoRow : OpenClaim := { program := "ytfpfhmnmcjnmaaadoor", sum := "c7cdad158f1086c27bf22edb3b72cf2d294091da79fc93fb00258cd6ebc58573", func := "loop.example/s02533/laws.FnExactDecodeFsinfo", spec := "fnExactDecodeFsinfo", inPlace := ["internal/reflectlite.ValueOf", "(internal/reflectlite.Value).Type", "(internal/reflectlite.Value).IsNil", "internal/reflectlite.TypeOf", "(internal/reflectlite.Value).Elem", "(internal/reflectlite.Value).Set"], unfollowed := true, recurses := true, named := ["loop.example/s02533/impl.fsinfoLetters", "errors.errorType"], apart := false, laid := [("errors.errorType", laid_errors_errorType), ("loop.example/s02533/impl.fsinfoLetters", laid_loop_example_s02533_impl_fsinfoLetters)], narrowed := true }
def FnExactDecodeFsinfoUptoSaid : Prop := fnExactDecodeFsinfoUptoRow.holds Tryd.pinned (OpenSpec.upto fnExactDecodeFsinfoSpec)

end Rows
end Go.Proofs.YtfpfhmnmcjnmaaaDoor
