/-
  No cell of these rows narrows 'for every input' (looked for: loops, veiled, ifaces, maps, wideKeys, modest, calm, conditions, laid).
  DERIVED. THE GIVEN ROWS OF THIS SEAT. 5 by the template 'for every input the law returns true; each argument reads behind the call as it read before'; 0 by the template 'total and deterministic' (their statements: YtbgiccgfgljkbaaTotals.lean).
  GIVEN WITH THE SEED: the statements are not yours to turn. If you find one false, say at which input.
  Laid BY PROGRAM, IN A SANDBOX (cutbox-rows.mjs): the forced cells as the released guide's own fill.sh prints them over the translation e8caed62835a877a… (all of the seat's roots in one cut). By AI agents, Wed Nov 11 2026. No macro, syntax, notation, axiom, sorry.
-/
import Derived.Test.YtbgiccgfgljkbaaChecked
import GoSem.Claim
import GoSem.ClaimJoined
import GoSem.ClaimMapViews
import Derived.JoinedTies
import Derived.KernelRfl
namespace Go.Proofs.Ytbgiccgfgljkbaa
/- THE CELL 'sum', in the pinned program and in every row, IS THE sha256 OF THE DUMP (.gsa) THAT YtbgiccgfgljkbaaProg.lean LOADS. Nothing in Lean hashes anything: it is a label: what it is worth is what the hold of that sum in a sandbox is worth. -/
noncomputable def Try.pinned : Pinned := { name := "ytbgiccgfgljkbaa", sum := "e8caed62835a877aa7b314efd1dcdbfe2cb1568199d933ab0b1e6bae9183453a", checked := Try.checked }
namespace Rows
def none {H : Type} : Left H := { results := [], args := [] }

/-- 'laws.FnExactMapReserve': WHATEVER THE INPUT: true; the input reads as it did. -/
def fnExactMapReserveSpec : ChangeSpec := { name := "fnExactMapReserve", fn := fun _ => fun
  | [d] => { results := [.lit (.bool true)], args := [d] }
  | _ => none }
def fnExactMapReserveRow : OpenClaim := { program := "ytbgiccgfgljkbaa", sum := "e8caed62835a877aa7b314efd1dcdbfe2cb1568199d933ab0b1e6bae9183453a", func := "loop.example/s02533/laws.FnExactMapReserve", spec := "fnExactMapReserve", apart := false }
def FnExactMapReserveSaid : Prop := fnExactMapReserveRow.holds Try.pinned (OpenSpec.ofChange fnExactMapReserveSpec)

/-- ITS FALSE NEIGHBOUR: 'it returns false'. Refute it at one input. -/
def fnExactMapReserveWrong : ChangeSpec := { name := "fnExactMapReserve", fn := fun _ => fun
  | [d] => { results := [.lit (.bool false)], args := [d] }
  | _ => none }
def FnExactMapReserveWrongFalsely : Prop := fnExactMapReserveRow.holds Try.pinned (OpenSpec.ofChange fnExactMapReserveWrong)

/-- 'laws.FnExactCheckName': WHATEVER THE INPUT: true; the input reads as it did. -/
def fnExactCheckNameSpec : ChangeSpec := { name := "fnExactCheckName", fn := fun _ => fun
  | [d] => { results := [.lit (.bool true)], args := [d] }
  | _ => none }
def fnExactCheckNameRow : OpenClaim := { program := "ytbgiccgfgljkbaa", sum := "e8caed62835a877aa7b314efd1dcdbfe2cb1568199d933ab0b1e6bae9183453a", func := "loop.example/s02533/laws.FnExactCheckName", spec := "fnExactCheckName", apart := false }
def FnExactCheckNameSaid : Prop := fnExactCheckNameRow.holds Try.pinned (OpenSpec.ofChange fnExactCheckNameSpec)

/-- ITS FALSE NEIGHBOUR: 'it returns false'. Refute it at one input. -/
def fnExactCheckNameWrong : ChangeSpec := { name := "fnExactCheckName", fn := fun _ => fun
  | [d] => { results := [.lit (.bool false)], args := [d] }
  | _ => none }
def FnExactCheckNameWrongFalsely : Prop := fnExactCheckNameRow.holds Try.pinned (OpenSpec.ofChange fnExactCheckNameWrong)

/-- 'laws.FnExactPlaceOf': WHATEVER THE INPUT: true; the input reads as it did. -/
def fnExactPlaceOfSpec : ChangeSpec := { name := "fnExactPlaceOf", fn := fun _ => fun
  | [d] => { results := [.lit (.bool true)], args := [d] }
  | _ => none }
def fnExactPlaceOfRow : OpenClaim := { program := "ytbgiccgfgljkbaa", sum := "e8caed62835a877aa7b314efd1dcdbfe2cb1568199d933ab0b1e6bae9183453a", func := "loop.example/s02533/laws.FnExactPlaceOf", spec := "fnExactPlaceOf", apart := false }
def FnExactPlaceOfSaid : Prop := fnExactPlaceOfRow.holds Try.pinned (OpenSpec.ofChange fnExactPlaceOfSpec)

/-- ITS FALSE NEIGHBOUR: 'it returns false'. Refute it at one input. -/
def fnExactPlaceOfWrong : ChangeSpec := { name := "fnExactPlaceOf", fn := fun _ => fun
  | [d] => { results := [.lit (.bool false)], args := [d] }
  | _ => none }
def FnExactPlaceOfWrongFalsely : Prop := fnExactPlaceOfRow.holds Try.pinned (OpenSpec.ofChange fnExactPlaceOfWrong)

/-- 'laws.FnExactCrc32': WHATEVER THE INPUT: true; the input reads as it did. -/
def fnExactCrc32Spec : ChangeSpec := { name := "fnExactCrc32", fn := fun _ => fun
  | [d] => { results := [.lit (.bool true)], args := [d] }
  | _ => none }
def fnExactCrc32Row : OpenClaim := { program := "ytbgiccgfgljkbaa", sum := "e8caed62835a877aa7b314efd1dcdbfe2cb1568199d933ab0b1e6bae9183453a", func := "loop.example/s02533/laws.FnExactCrc32", spec := "fnExactCrc32", apart := false }
def FnExactCrc32Said : Prop := fnExactCrc32Row.holds Try.pinned (OpenSpec.ofChange fnExactCrc32Spec)

/-- ITS FALSE NEIGHBOUR: 'it returns false'. Refute it at one input. -/
def fnExactCrc32Wrong : ChangeSpec := { name := "fnExactCrc32", fn := fun _ => fun
  | [d] => { results := [.lit (.bool false)], args := [d] }
  | _ => none }
def FnExactCrc32WrongFalsely : Prop := fnExactCrc32Row.holds Try.pinned (OpenSpec.ofChange fnExactCrc32Wrong)

/-- 'laws.FnExactLowestInode': WHATEVER THE INPUT: true; the input reads as it did. -/
def fnExactLowestInodeSpec : ChangeSpec := { name := "fnExactLowestInode", fn := fun _ => fun
  | [d] => { results := [.lit (.bool true)], args := [d] }
  | _ => none }
def fnExactLowestInodeRow : OpenClaim := { program := "ytbgiccgfgljkbaa", sum := "e8caed62835a877aa7b314efd1dcdbfe2cb1568199d933ab0b1e6bae9183453a", func := "loop.example/s02533/laws.FnExactLowestInode", spec := "fnExactLowestInode", apart := false }
def FnExactLowestInodeSaid : Prop := fnExactLowestInodeRow.holds Try.pinned (OpenSpec.ofChange fnExactLowestInodeSpec)

/-- ITS FALSE NEIGHBOUR: 'it returns false'. Refute it at one input. -/
def fnExactLowestInodeWrong : ChangeSpec := { name := "fnExactLowestInode", fn := fun _ => fun
  | [d] => { results := [.lit (.bool false)], args := [d] }
  | _ => none }
def FnExactLowestInodeWrongFalsely : Prop := fnExactLowestInodeRow.holds Try.pinned (OpenSpec.ofChange fnExactLowestInodeWrong)

/- THE SECOND FORM. 'bulk': how many values and letters a reading holds, each counted each time it is reached (what is shared counts as often as it is met; a slice's spare places count too). A statement '..UptoSaid' is the law's where the arguments, and the package variables that the reading takes, are together of bulk at most 1048576: NARROWER than '..Said'. Prove '..Said' where nothing that the law and all that it calls make is longer than what came in: it says more and counts as full. Else prove '..UptoSaid'. A law counts once. -/
mutual
def uptoBulk {H : Type} : DataW H → Nat
  | .lit (.string bytes) => bytes.length + 1
  | .lit _ => 1
  | .nil => 1
  | .ptr d => uptoBulk d + 1
  | .slice elems spare => uptoBulkAll elems + uptoBulkAll spare + 1
  | .agg parts => uptoBulkAll parts + 1
  | .iface _ d => uptoBulk d + 1
  | .map entries => uptoBulkEntries entries + 1
  | .held _ => 1
def uptoBulkAll {H : Type} : List (DataW H) → Nat
  | [] => 0
  | d :: r => uptoBulk d + uptoBulkAll r
def uptoBulkEntries {H : Type} : List (Lit × DataW H) → Nat
  | [] => 0
  | x :: r => uptoBulkEntry x + uptoBulkEntries r
def uptoBulkEntry {H : Type} : Lit × DataW H → Nat
  | (.string bytes, d) => bytes.length + uptoBulk d + 1
  | (_, d) => uptoBulk d + 1
 end
def uptoSmall : (H : Type) → List (DataW H) → Bool := fun _ ds => decide (uptoBulkAll ds ≤ 1048576)
def OpenSpec.upto (s : _root_.Go.ChangeSpec) : _root_.Go.OpenSpec := { _root_.Go.OpenSpec.ofChange s with cond := some uptoSmall }

/-- 'laws.FnExactMapReserve', WHERE WHAT IT READS IS OF BULK AT MOST 1048576: true; the input reads as it did. -/
def fnExactMapReserveUptoRow : OpenClaim := { program := "ytbgiccgfgljkbaa", sum := "e8caed62835a877aa7b314efd1dcdbfe2cb1568199d933ab0b1e6bae9183453a", func := "loop.example/s02533/laws.FnExactMapReserve", spec := "fnExactMapReserve", apart := false, narrowed := true }
def FnExactMapReserveUptoSaid : Prop := fnExactMapReserveUptoRow.holds Try.pinned (OpenSpec.upto fnExactMapReserveSpec)

/-- 'laws.FnExactCheckName', WHERE WHAT IT READS IS OF BULK AT MOST 1048576: true; the input reads as it did. -/
def fnExactCheckNameUptoRow : OpenClaim := { program := "ytbgiccgfgljkbaa", sum := "e8caed62835a877aa7b314efd1dcdbfe2cb1568199d933ab0b1e6bae9183453a", func := "loop.example/s02533/laws.FnExactCheckName", spec := "fnExactCheckName", apart := false, narrowed := true }
def FnExactCheckNameUptoSaid : Prop := fnExactCheckNameUptoRow.holds Try.pinned (OpenSpec.upto fnExactCheckNameSpec)

/-- 'laws.FnExactPlaceOf', WHERE WHAT IT READS IS OF BULK AT MOST 1048576: true; the input reads as it did. -/
def fnExactPlaceOfUptoRow : OpenClaim := { program := "ytbgiccgfgljkbaa", sum := "e8caed62835a877aa7b314efd1dcdbfe2cb1568199d933ab0b1e6bae9183453a", func := "loop.example/s02533/laws.FnExactPlaceOf", spec := "fnExactPlaceOf", apart := false, narrowed := true }
def FnExactPlaceOfUptoSaid : Prop := fnExactPlaceOfUptoRow.holds Try.pinned (OpenSpec.upto fnExactPlaceOfSpec)

/-- 'laws.FnExactCrc32', WHERE WHAT IT READS IS OF BULK AT MOST 1048576: true; the input reads as it did. -/
def fnExactCrc32UptoRow : OpenClaim := { program := "ytbgiccgfgljkbaa", sum := "e8caed62835a877aa7b314efd1dcdbfe2cb1568199d933ab0b1e6bae9183453a", func := "loop.example/s02533/laws.FnExactCrc32", spec := "fnExactCrc32", apart := false, narrowed := true }
def FnExactCrc32UptoSaid : Prop := fnExactCrc32UptoRow.holds Try.pinned (OpenSpec.upto fnExactCrc32Spec)

/-- 'laws.FnExactLowestInode', WHERE WHAT IT READS IS OF BULK AT MOST 1048576: true; the input reads as it did. -/
def fnExactLowestInodeUptoRow : OpenClaim := { program := "ytbgiccgfgljkbaa", sum := "e8caed62835a877aa7b314efd1dcdbfe2cb1568199d933ab0b1e6bae9183453a", func := "loop.example/s02533/laws.FnExactLowestInode", spec := "fnExactLowestInode", apart := false, narrowed := true }
def FnExactLowestInodeUptoSaid : Prop := fnExactLowestInodeUptoRow.holds Try.pinned (OpenSpec.upto fnExactLowestInodeSpec)

end Rows
end Go.Proofs.Ytbgiccgfgljkbaa
