/- The program's commands: the map of the first words. -/
import Derived.Test.YtnljpaohkkdjjaaGreatDoorPlV
import Derived.Test.YtnljpaohkkdjjaaGreatDoorPlX
import Derived.MapKept
import Derived.ChangeMaps5
namespace Go.Proofs.YtnljpaohkkdjjaaGreatDoor
set_option linter.unusedVariables false
set_option linter.unusedSimpArgs false
open Go.RowKit

/-- The entries of a map with these keys and values, born one behind another. -/
def entM (i : Nat) : List (List UInt8) → List Value → List MapEntry
  | n :: N, v :: V => ⟨.string (mk n), v, i⟩ :: entM (i + 1) N V
  | _, _ => []
theorem entM_snoc : ∀ (N : List (List UInt8)) (V : List Value) (i : Nat) (n : List UInt8) (v : Value), N.length = V.length → entM i (N ++ [n]) (V ++ [v]) = entM i N V ++ [⟨.string (mk n), v, i + N.length⟩]
  | [], [], i, n, v, _ => rfl
  | a :: N, b :: V, i, n, v, h => by
    simp only [List.cons_append, entM, List.length_cons]
    rw [entM_snoc N V (i + 1) n v (by simpa using h)]
    simp [Nat.add_assoc, Nat.add_comm 1]
theorem mk_beq (a : List UInt8) (s : ByteArray) : (s == mk a) = (a == s.data.toList) := by
  obtain ⟨⟨l⟩⟩ := s
  show (Array.mk l == a.toArray) = (a == l)
  rw [Bool.eq_iff_iff]
  simp only [beq_iff_eq]
  constructor
  · intro h; exact (Array.mk.inj h).symm
  · rintro rfl; rfl
theorem find_ent (s : ByteArray) : ∀ (N : List (List UInt8)) (V : List Value) (i j : Nat), N.length = V.length → Instr.findNow .string (.string s) (entM i N V) j = some ((N.findIdx? (· == s.data.toList)).map fun k => (j + k, V.getD k undef))
  | [], [], i, j, _ => rfl
  | a :: N, b :: V, i, j, h => by
    simp only [entM, Instr.findNow, Instr.sameNow, mk_beq, List.findIdx?_cons]
    cases hq : (a == s.data.toList) with
    | true => simp
    | false =>
      simp only [Bool.false_eq_true, if_false]
      rw [find_ent s N V (i + 1) (j + 1) (by simpa using h)]
      cases N.findIdx? (· == s.data.toList) with
      | none => rfl
      | some k => simp [Nat.add_assoc, Nat.add_comm 1]
theorem run_check {b : Bool} (s : ByteArray) (W : World) : (Instr.checkKey b 10000 9 (.string s)).run Tryz.prog W = .ok () W := by kernel_rfl
theorem run_find (s : ByteArray) (N : List (List UInt8)) (V : List Value) (i : Nat) (h : N.length = V.length) (W : World) : (Instr.findKey 9 (.string s) (entM i N V)).run Tryz.prog W = .ok ((N.findIdx? (· == s.data.toList)).map fun k => (k, V.getD k undef)) W := by
  simp [Instr.findKey, run_underlying Tryz.underlying9, Result.andThen, find_ent s N V i 0 h]
theorem run_insert (b : Nat) (nm : List UInt8) (v : Value) (N : List (List UInt8)) (V : List Value) (W : World) (h : N.length = V.length) (hb : W.heap[b]? = some (.map (entM 0 N V).toArray N.length)) (hn : N.findIdx? (· == nm) = none) :
    (Instr.mapUpdate 43 (.map (some b)) (.string (mk nm)) v).run Tryz.prog W = .ok () (Go.ChangeMaps.setBlock W b (.map (entM 0 (N ++ [nm]) (V ++ [v])).toArray (N ++ [nm]).length)) := by
  have hf := run_find (mk nm) N V 0 h W
  rw [mk_toList, hn] at hf
  simp [Instr.mapUpdate, run_underlying Tryz.underlying43, MapKept.run_getObj_map hb, run_check, hf, MapKept.run_setObj_map _ hb, Result.andThen, Go.ChangeMaps.setBlock, entM_snoc N V 0 nm v h]
end Go.Proofs.YtnljpaohkkdjjaaGreatDoor
