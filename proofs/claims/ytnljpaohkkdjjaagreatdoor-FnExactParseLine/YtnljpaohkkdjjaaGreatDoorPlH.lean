/- The model's forms of commands (l15Form). -/
import Derived.Test.YtnljpaohkkdjjaaGreatDoorPlG
import Derived.Test.YtnljpaohkkdjjaaGreatDoorPlC
import Derived.Test.YtnljpaohkkdjjaaGreatDoorCells
import Derived.Deep.DeepCutAuto
import Derived.Deep.CutBlock
import Derived.Deep.RegionWith
namespace Go.Proofs.YtnljpaohkkdjjaaGreatDoor
set_option linter.unusedVariables false
set_option linter.unusedSimpArgs false
open Go.RowKit

/-- The commands: their first words, and the forms of the words behind. -/
def cmdN : List (List UInt8) := [[109, 107, 100, 105, 114], [99, 114, 101, 97, 116, 101], [115, 121, 109, 108, 105, 110, 107], [108, 105, 110, 107], [117, 110, 108, 105, 110, 107], [114, 109, 100, 105, 114], [114, 101, 110, 97, 109, 101], [119, 114, 105, 116, 101], [116, 114, 117, 110, 99, 97, 116, 101], [99, 104, 109, 111, 100], [99, 104, 111, 119, 110], [114, 101, 97, 100], [114, 101, 97, 100, 108, 105, 110, 107], [115, 116, 97, 116], [108, 115, 116, 97, 116], [108, 105, 115, 116], [115, 101, 101, 107], [115, 110, 97, 112], [117, 110, 115, 110, 97, 112], [114, 101, 115, 116, 111, 114, 101], [115, 110, 97, 112, 115], [99, 112], [115, 116, 97, 116, 102, 115], [115, 101, 110, 100], [114, 101, 99, 101, 105, 118, 101], [102, 117, 115, 101], [99, 114, 97, 115, 104]]
def cmdF : List (List UInt8) := [[112, 109], [112, 109], [112, 113], [112, 113], [112], [112], [112, 113], [112, 110, 116], [112, 110], [112, 109], [112, 110, 110], [112, 110, 110], [112], [112], [112], [112], [112, 110, 110], [112], [112], [112], [], [], [], [112, 113], [116], [110], [110, 116]]
/-- Its place among the commands. -/
def cmdAt (l : List UInt8) : Option Nat := cmdN.findIdx? (· == l)
def formV (l : List UInt8) : Value := match cmdAt l with
  | some k => .tuple #[.string (mk (cmdF.getD k [])), .int .i64 ((k : Int) + 1)]
  | none => .tuple #[.string ⟨#[]⟩, .int .i64 0]
theorem cmdN_len : cmdN.length = 27 := rfl
theorem cmdF_len : cmdF.length = 27 := rfl
theorem cmd_hit {l : List UInt8} {k : Nat} (hk : k < 27) (he : cmdN[k]? = some l) (hn : ∀ j x, j < k → cmdN[j]? = some x → x ≠ l) : cmdAt l = some k := by
  unfold cmdAt
  rw [List.findIdx?_eq_some_iff_getElem]
  have h2 : k < cmdN.length := hk
  refine ⟨h2, ?_, fun j hj => ?_⟩
  · have := (List.getElem?_eq_some_iff.1 he).2
    simp [this]
  · have := hn j (cmdN[j]'(by omega)) hj (List.getElem?_eq_getElem _)
    simpa using this
theorem cmd_miss {l : List UInt8} (hn : ∀ j x, j < 27 → cmdN[j]? = some x → x ≠ l) : cmdAt l = none := by
  unfold cmdAt
  rw [List.findIdx?_eq_none_iff]
  intro x hx
  obtain ⟨j, hj, rfl⟩ := List.getElem_of_mem hx
  have := hn j cmdN[j] hj (List.getElem?_eq_getElem hj)
  simpa using this
theorem formV_hit {l : List UInt8} {k : Nat} (h : cmdAt l = some k) : formV l = .tuple #[.string (mk (cmdF.getD k [])), .int .i64 ((k : Int) + 1)] := by unfold formV; rw [h]
theorem formV_miss {l : List UInt8} (h : cmdAt l = none) : formV l = .tuple #[.string ⟨#[]⟩, .int .i64 0] := by unfold formV; rw [h]
theorem cells_cmd : (cmdN.map fun x => Value.string (mk x)).toArray = #[.string ⟨#[109, 107, 100, 105, 114]⟩, .string ⟨#[99, 114, 101, 97, 116, 101]⟩, .string ⟨#[115, 121, 109, 108, 105, 110, 107]⟩, .string ⟨#[108, 105, 110, 107]⟩, .string ⟨#[117, 110, 108, 105, 110, 107]⟩, .string ⟨#[114, 109, 100, 105, 114]⟩, .string ⟨#[114, 101, 110, 97, 109, 101]⟩, .string ⟨#[119, 114, 105, 116, 101]⟩, .string ⟨#[116, 114, 117, 110, 99, 97, 116, 101]⟩, .string ⟨#[99, 104, 109, 111, 100]⟩, .string ⟨#[99, 104, 111, 119, 110]⟩, .string ⟨#[114, 101, 97, 100]⟩, .string ⟨#[114, 101, 97, 100, 108, 105, 110, 107]⟩, .string ⟨#[115, 116, 97, 116]⟩, .string ⟨#[108, 115, 116, 97, 116]⟩, .string ⟨#[108, 105, 115, 116]⟩, .string ⟨#[115, 101, 101, 107]⟩, .string ⟨#[115, 110, 97, 112]⟩, .string ⟨#[117, 110, 115, 110, 97, 112]⟩, .string ⟨#[114, 101, 115, 116, 111, 114, 101]⟩, .string ⟨#[115, 110, 97, 112, 115]⟩, .string ⟨#[99, 112]⟩, .string ⟨#[115, 116, 97, 116, 102, 115]⟩, .string ⟨#[115, 101, 110, 100]⟩, .string ⟨#[114, 101, 99, 101, 105, 118, 101]⟩, .string ⟨#[102, 117, 115, 101]⟩, .string ⟨#[99, 114, 97, 115, 104]⟩] ∧ (cmdF.map fun x => Value.string (mk x)).toArray = #[.string ⟨#[112, 109]⟩, .string ⟨#[112, 109]⟩, .string ⟨#[112, 113]⟩, .string ⟨#[112, 113]⟩, .string ⟨#[112]⟩, .string ⟨#[112]⟩, .string ⟨#[112, 113]⟩, .string ⟨#[112, 110, 116]⟩, .string ⟨#[112, 110]⟩, .string ⟨#[112, 109]⟩, .string ⟨#[112, 110, 110]⟩, .string ⟨#[112, 110, 110]⟩, .string ⟨#[112]⟩, .string ⟨#[112]⟩, .string ⟨#[112]⟩, .string ⟨#[112]⟩, .string ⟨#[112, 110, 110]⟩, .string ⟨#[112]⟩, .string ⟨#[112]⟩, .string ⟨#[112]⟩, .string ⟨#[]⟩, .string ⟨#[]⟩, .string ⟨#[]⟩, .string ⟨#[112, 113]⟩, .string ⟨#[116]⟩, .string ⟨#[110]⟩, .string ⟨#[110, 116]⟩] := ⟨rfl, rfl⟩
set_option maxRecDepth 100000 in
set_option maxHeartbeats 2000000 in
theorem form_any (s : ByteArray) (w : World) :
    Calls Tryz.prog 10 #[.string s] w fun e w' => e = .returned (formV s.data.toList) ∧ Below w.heap.size w w' := by
  have HX := hide (show Below w.heap.size w ((w.alloc (.cells #[.string ⟨#[109, 107, 100, 105, 114]⟩, .string ⟨#[99, 114, 101, 97, 116, 101]⟩, .string ⟨#[115, 121, 109, 108, 105, 110, 107]⟩, .string ⟨#[108, 105, 110, 107]⟩, .string ⟨#[117, 110, 108, 105, 110, 107]⟩, .string ⟨#[114, 109, 100, 105, 114]⟩, .string ⟨#[114, 101, 110, 97, 109, 101]⟩, .string ⟨#[119, 114, 105, 116, 101]⟩, .string ⟨#[116, 114, 117, 110, 99, 97, 116, 101]⟩, .string ⟨#[99, 104, 109, 111, 100]⟩, .string ⟨#[99, 104, 111, 119, 110]⟩, .string ⟨#[114, 101, 97, 100]⟩, .string ⟨#[114, 101, 97, 100, 108, 105, 110, 107]⟩, .string ⟨#[115, 116, 97, 116]⟩, .string ⟨#[108, 115, 116, 97, 116]⟩, .string ⟨#[108, 105, 115, 116]⟩, .string ⟨#[115, 101, 101, 107]⟩, .string ⟨#[115, 110, 97, 112]⟩, .string ⟨#[117, 110, 115, 110, 97, 112]⟩, .string ⟨#[114, 101, 115, 116, 111, 114, 101]⟩, .string ⟨#[115, 110, 97, 112, 115]⟩, .string ⟨#[99, 112]⟩, .string ⟨#[115, 116, 97, 116, 102, 115]⟩, .string ⟨#[115, 101, 110, 100]⟩, .string ⟨#[114, 101, 99, 101, 105, 118, 101]⟩, .string ⟨#[102, 117, 115, 101]⟩, .string ⟨#[99, 114, 97, 115, 104]⟩] 9)).alloc (.cells #[.string ⟨#[112, 109]⟩, .string ⟨#[112, 109]⟩, .string ⟨#[112, 113]⟩, .string ⟨#[112, 113]⟩, .string ⟨#[112]⟩, .string ⟨#[112]⟩, .string ⟨#[112, 113]⟩, .string ⟨#[112, 110, 116]⟩, .string ⟨#[112, 110]⟩, .string ⟨#[112, 109]⟩, .string ⟨#[112, 110, 110]⟩, .string ⟨#[112, 110, 110]⟩, .string ⟨#[112]⟩, .string ⟨#[112]⟩, .string ⟨#[112]⟩, .string ⟨#[112]⟩, .string ⟨#[112, 110, 110]⟩, .string ⟨#[112]⟩, .string ⟨#[112]⟩, .string ⟨#[112]⟩, .string ⟨#[]⟩, .string ⟨#[]⟩, .string ⟨#[]⟩, .string ⟨#[112, 113]⟩, .string ⟨#[116]⟩, .string ⟨#[110]⟩, .string ⟨#[110, 116]⟩] 9)) ∧ Blk ((w.alloc (.cells #[.string ⟨#[109, 107, 100, 105, 114]⟩, .string ⟨#[99, 114, 101, 97, 116, 101]⟩, .string ⟨#[115, 121, 109, 108, 105, 110, 107]⟩, .string ⟨#[108, 105, 110, 107]⟩, .string ⟨#[117, 110, 108, 105, 110, 107]⟩, .string ⟨#[114, 109, 100, 105, 114]⟩, .string ⟨#[114, 101, 110, 97, 109, 101]⟩, .string ⟨#[119, 114, 105, 116, 101]⟩, .string ⟨#[116, 114, 117, 110, 99, 97, 116, 101]⟩, .string ⟨#[99, 104, 109, 111, 100]⟩, .string ⟨#[99, 104, 111, 119, 110]⟩, .string ⟨#[114, 101, 97, 100]⟩, .string ⟨#[114, 101, 97, 100, 108, 105, 110, 107]⟩, .string ⟨#[115, 116, 97, 116]⟩, .string ⟨#[108, 115, 116, 97, 116]⟩, .string ⟨#[108, 105, 115, 116]⟩, .string ⟨#[115, 101, 101, 107]⟩, .string ⟨#[115, 110, 97, 112]⟩, .string ⟨#[117, 110, 115, 110, 97, 112]⟩, .string ⟨#[114, 101, 115, 116, 111, 114, 101]⟩, .string ⟨#[115, 110, 97, 112, 115]⟩, .string ⟨#[99, 112]⟩, .string ⟨#[115, 116, 97, 116, 102, 115]⟩, .string ⟨#[115, 101, 110, 100]⟩, .string ⟨#[114, 101, 99, 101, 105, 118, 101]⟩, .string ⟨#[102, 117, 115, 101]⟩, .string ⟨#[99, 114, 97, 115, 104]⟩] 9)).alloc (.cells #[.string ⟨#[112, 109]⟩, .string ⟨#[112, 109]⟩, .string ⟨#[112, 113]⟩, .string ⟨#[112, 113]⟩, .string ⟨#[112]⟩, .string ⟨#[112]⟩, .string ⟨#[112, 113]⟩, .string ⟨#[112, 110, 116]⟩, .string ⟨#[112, 110]⟩, .string ⟨#[112, 109]⟩, .string ⟨#[112, 110, 110]⟩, .string ⟨#[112, 110, 110]⟩, .string ⟨#[112]⟩, .string ⟨#[112]⟩, .string ⟨#[112]⟩, .string ⟨#[112]⟩, .string ⟨#[112, 110, 110]⟩, .string ⟨#[112]⟩, .string ⟨#[112]⟩, .string ⟨#[112]⟩, .string ⟨#[]⟩, .string ⟨#[]⟩, .string ⟨#[]⟩, .string ⟨#[112, 113]⟩, .string ⟨#[116]⟩, .string ⟨#[110]⟩, .string ⟨#[110, 116]⟩] 9)) w.heap.size (cmdN.map fun x => Value.string (mk x)).toArray 9 ∧ Blk ((w.alloc (.cells #[.string ⟨#[109, 107, 100, 105, 114]⟩, .string ⟨#[99, 114, 101, 97, 116, 101]⟩, .string ⟨#[115, 121, 109, 108, 105, 110, 107]⟩, .string ⟨#[108, 105, 110, 107]⟩, .string ⟨#[117, 110, 108, 105, 110, 107]⟩, .string ⟨#[114, 109, 100, 105, 114]⟩, .string ⟨#[114, 101, 110, 97, 109, 101]⟩, .string ⟨#[119, 114, 105, 116, 101]⟩, .string ⟨#[116, 114, 117, 110, 99, 97, 116, 101]⟩, .string ⟨#[99, 104, 109, 111, 100]⟩, .string ⟨#[99, 104, 111, 119, 110]⟩, .string ⟨#[114, 101, 97, 100]⟩, .string ⟨#[114, 101, 97, 100, 108, 105, 110, 107]⟩, .string ⟨#[115, 116, 97, 116]⟩, .string ⟨#[108, 115, 116, 97, 116]⟩, .string ⟨#[108, 105, 115, 116]⟩, .string ⟨#[115, 101, 101, 107]⟩, .string ⟨#[115, 110, 97, 112]⟩, .string ⟨#[117, 110, 115, 110, 97, 112]⟩, .string ⟨#[114, 101, 115, 116, 111, 114, 101]⟩, .string ⟨#[115, 110, 97, 112, 115]⟩, .string ⟨#[99, 112]⟩, .string ⟨#[115, 116, 97, 116, 102, 115]⟩, .string ⟨#[115, 101, 110, 100]⟩, .string ⟨#[114, 101, 99, 101, 105, 118, 101]⟩, .string ⟨#[102, 117, 115, 101]⟩, .string ⟨#[99, 114, 97, 115, 104]⟩] 9)).alloc (.cells #[.string ⟨#[112, 109]⟩, .string ⟨#[112, 109]⟩, .string ⟨#[112, 113]⟩, .string ⟨#[112, 113]⟩, .string ⟨#[112]⟩, .string ⟨#[112]⟩, .string ⟨#[112, 113]⟩, .string ⟨#[112, 110, 116]⟩, .string ⟨#[112, 110]⟩, .string ⟨#[112, 109]⟩, .string ⟨#[112, 110, 110]⟩, .string ⟨#[112, 110, 110]⟩, .string ⟨#[112]⟩, .string ⟨#[112]⟩, .string ⟨#[112]⟩, .string ⟨#[112]⟩, .string ⟨#[112, 110, 110]⟩, .string ⟨#[112]⟩, .string ⟨#[112]⟩, .string ⟨#[112]⟩, .string ⟨#[]⟩, .string ⟨#[]⟩, .string ⟨#[]⟩, .string ⟨#[112, 113]⟩, .string ⟨#[116]⟩, .string ⟨#[110]⟩, .string ⟨#[110, 116]⟩] 9)) (w.heap.size + 1) (cmdF.map fun x => Value.string (mk x)).toArray 9 from by
    have k1 := Blk.new (w.alloc (.cells #[.string ⟨#[109, 107, 100, 105, 114]⟩, .string ⟨#[99, 114, 101, 97, 116, 101]⟩, .string ⟨#[115, 121, 109, 108, 105, 110, 107]⟩, .string ⟨#[108, 105, 110, 107]⟩, .string ⟨#[117, 110, 108, 105, 110, 107]⟩, .string ⟨#[114, 109, 100, 105, 114]⟩, .string ⟨#[114, 101, 110, 97, 109, 101]⟩, .string ⟨#[119, 114, 105, 116, 101]⟩, .string ⟨#[116, 114, 117, 110, 99, 97, 116, 101]⟩, .string ⟨#[99, 104, 109, 111, 100]⟩, .string ⟨#[99, 104, 111, 119, 110]⟩, .string ⟨#[114, 101, 97, 100]⟩, .string ⟨#[114, 101, 97, 100, 108, 105, 110, 107]⟩, .string ⟨#[115, 116, 97, 116]⟩, .string ⟨#[108, 115, 116, 97, 116]⟩, .string ⟨#[108, 105, 115, 116]⟩, .string ⟨#[115, 101, 101, 107]⟩, .string ⟨#[115, 110, 97, 112]⟩, .string ⟨#[117, 110, 115, 110, 97, 112]⟩, .string ⟨#[114, 101, 115, 116, 111, 114, 101]⟩, .string ⟨#[115, 110, 97, 112, 115]⟩, .string ⟨#[99, 112]⟩, .string ⟨#[115, 116, 97, 116, 102, 115]⟩, .string ⟨#[115, 101, 110, 100]⟩, .string ⟨#[114, 101, 99, 101, 105, 118, 101]⟩, .string ⟨#[102, 117, 115, 101]⟩, .string ⟨#[99, 114, 97, 115, 104]⟩] 9)) #[.string ⟨#[112, 109]⟩, .string ⟨#[112, 109]⟩, .string ⟨#[112, 113]⟩, .string ⟨#[112, 113]⟩, .string ⟨#[112]⟩, .string ⟨#[112]⟩, .string ⟨#[112, 113]⟩, .string ⟨#[112, 110, 116]⟩, .string ⟨#[112, 110]⟩, .string ⟨#[112, 109]⟩, .string ⟨#[112, 110, 110]⟩, .string ⟨#[112, 110, 110]⟩, .string ⟨#[112]⟩, .string ⟨#[112]⟩, .string ⟨#[112]⟩, .string ⟨#[112]⟩, .string ⟨#[112, 110, 110]⟩, .string ⟨#[112]⟩, .string ⟨#[112]⟩, .string ⟨#[112]⟩, .string ⟨#[]⟩, .string ⟨#[]⟩, .string ⟨#[]⟩, .string ⟨#[112, 113]⟩, .string ⟨#[116]⟩, .string ⟨#[110]⟩, .string ⟨#[110, 116]⟩] 9
    rw [World.size_alloc] at k1
    rw [cells_cmd.1, cells_cmd.2]
    exact ⟨((Below.refl _ _).alloc (Nat.le_refl _) _).alloc (by simp) _, (Blk.new w _ _).alloc _, k1⟩)
  go_enter Tryz.func10, Tryz.ntmps10
  go_upto_region 3 with fail
  generalize (w.alloc (.cells #[.string ⟨#[109, 107, 100, 105, 114]⟩, .string ⟨#[99, 114, 101, 97, 116, 101]⟩, .string ⟨#[115, 121, 109, 108, 105, 110, 107]⟩, .string ⟨#[108, 105, 110, 107]⟩, .string ⟨#[117, 110, 108, 105, 110, 107]⟩, .string ⟨#[114, 109, 100, 105, 114]⟩, .string ⟨#[114, 101, 110, 97, 109, 101]⟩, .string ⟨#[119, 114, 105, 116, 101]⟩, .string ⟨#[116, 114, 117, 110, 99, 97, 116, 101]⟩, .string ⟨#[99, 104, 109, 111, 100]⟩, .string ⟨#[99, 104, 111, 119, 110]⟩, .string ⟨#[114, 101, 97, 100]⟩, .string ⟨#[114, 101, 97, 100, 108, 105, 110, 107]⟩, .string ⟨#[115, 116, 97, 116]⟩, .string ⟨#[108, 115, 116, 97, 116]⟩, .string ⟨#[108, 105, 115, 116]⟩, .string ⟨#[115, 101, 101, 107]⟩, .string ⟨#[115, 110, 97, 112]⟩, .string ⟨#[117, 110, 115, 110, 97, 112]⟩, .string ⟨#[114, 101, 115, 116, 111, 114, 101]⟩, .string ⟨#[115, 110, 97, 112, 115]⟩, .string ⟨#[99, 112]⟩, .string ⟨#[115, 116, 97, 116, 102, 115]⟩, .string ⟨#[115, 101, 110, 100]⟩, .string ⟨#[114, 101, 99, 101, 105, 118, 101]⟩, .string ⟨#[102, 117, 115, 101]⟩, .string ⟨#[99, 114, 97, 115, 104]⟩] 9)).alloc (.cells #[.string ⟨#[112, 109]⟩, .string ⟨#[112, 109]⟩, .string ⟨#[112, 113]⟩, .string ⟨#[112, 113]⟩, .string ⟨#[112]⟩, .string ⟨#[112]⟩, .string ⟨#[112, 113]⟩, .string ⟨#[112, 110, 116]⟩, .string ⟨#[112, 110]⟩, .string ⟨#[112, 109]⟩, .string ⟨#[112, 110, 110]⟩, .string ⟨#[112, 110, 110]⟩, .string ⟨#[112]⟩, .string ⟨#[112]⟩, .string ⟨#[112]⟩, .string ⟨#[112]⟩, .string ⟨#[112, 110, 110]⟩, .string ⟨#[112]⟩, .string ⟨#[112]⟩, .string ⟨#[112]⟩, .string ⟨#[]⟩, .string ⟨#[]⟩, .string ⟨#[]⟩, .string ⟨#[112, 113]⟩, .string ⟨#[116]⟩, .string ⟨#[110]⟩, .string ⟨#[110, 116]⟩] 9) = W at HX ⊢
  go_wp2_with fail
  go_loop [12] (fun i => ∃ k : Nat, k ≤ 27 ∧ i = .int .i64 (k : Int) ∧ Hid (∀ j x, j < k → cmdN[j]? = some x → x ≠ s.data.toList)) (fun i => 27 - (intOf i).toNat)
  case atStart => exact ⟨0, by omega, rfl, fun j x hj => by omega⟩
  case round =>
    obtain ⟨k, hk, rfl, HK⟩ := hrel
    by_cases hlt : k < 27
    · obtain ⟨x, hx⟩ : ∃ x, cmdN[k]? = some x := ⟨_, List.getElem?_eq_getElem hlt⟩
      obtain ⟨y, hy⟩ : ∃ y, cmdF[k]? = some y := ⟨_, List.getElem?_eq_getElem hlt⟩
      have c1 : W.cell? ⟨w.heap.size, k, none⟩ = some (.string (mk x)) := (HX.out.2.1.cell k).trans (by simp [hx])
      have c2 : W.cell? ⟨w.heap.size + 1, k, none⟩ = some (.string (mk y)) := (HX.out.2.2.cell k).trans (by simp [hy])
      have HXX := hide hx
      have HYY := hide hy
      clear hx hy
      by_cases he : x = s.data.toList
      · have hq : ((mk x).toList == s.toList) = true := by rw [beq_mk, decide_eq_true he]
        have HF := hide (show formV s.data.toList = .tuple #[.string (mk y), .int .i64 ((k : Int) + 1)] from by
          rw [formV_hit (cmd_hit hlt (by rw [← he]; exact HXX.out) HK.out)]
          rw [List.getD_eq_getElem?_getD, HYY.out]
          rfl)
        clear he
        go_wp2
        go_ret2
        refine ⟨ret_val ?_, HX.out.1⟩
        rw [HF.out]
        rfl
      · have hq : ((mk x).toList == s.toList) = false := by rw [beq_mk, decide_eq_false he]
        have HN := hide (show ∀ j z, j < k + 1 → cmdN[j]? = some z → z ≠ s.data.toList from fun j z hj hz => by
          by_cases e : j = k
          · subst e
            rw [HXX.out] at hz
            rw [← Option.some.inj hz]
            exact he
          · exact HK.out j z (by omega) hz)
        clear he
        go_wp2
        go_round
        case rel => exact ⟨k + 1, by omega, by go_num, HN⟩
        case measure => simp [intOf]; omega
    · have HF := hide (formV_miss (cmd_miss (fun j x hj => HK.out j x (by omega))))
      go_wp2
      go_ret2
      refine ⟨ret_val ?_, HX.out.1⟩
      rw [HF.out]
      rfl
end Go.Proofs.YtnljpaohkkdjjaaGreatDoor
