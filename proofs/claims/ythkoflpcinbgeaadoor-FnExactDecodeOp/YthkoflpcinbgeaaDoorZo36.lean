/- A block with its sum: laySum of the program, l02Sealed of the model. -/
import Derived.Test.YthkoflpcinbgeaaDoorZo35
import Derived.Test.YthkoflpcinbgeaaDoorZo16
import Derived.Test.YthkoflpcinbgeaaDoorZo22
namespace Go.Proofs.YthkoflpcinbgeaaDoor
set_option linter.unusedVariables false
set_option linter.unusedSimpArgs false
open Go.RowKit

/-- Bytes filled up to where the sum stands; with the sum behind them. -/
def pad (zs : List Int) : List Int := zs ++ List.replicate (508 - zs.length) 0
def sealed (zs : List Int) : List Int := pad zs ++ le 4 (Crc.crc (pad zs))
theorem pad_len (zs : List Int) (h : zs.length ≤ 508) : (pad zs).length = 508 := by
  unfold pad
  rw [List.length_append, List.length_replicate]
  omega
theorem sealed_len (zs : List Int) (h : zs.length ≤ 508) : (sealed zs).length = 512 := by
  unfold sealed
  rw [List.length_append, pad_len zs h, le_len]
theorem pad_bd (zs : List Int) (h : ∀ z ∈ zs, 0 ≤ z ∧ z < 256) : ∀ z ∈ pad zs, 0 ≤ z ∧ z < 256 := by
  intro z hz
  unfold pad at hz
  rw [List.mem_append] at hz
  rcases hz with hz | hz
  · exact h z hz
  · rw [(List.mem_replicate.1 hz).2]; omega

theorem crc_lt (zs : List Int) (hz : ∀ z ∈ zs, 0 ≤ z ∧ z < 256) : Crc.crc zs < 4294967296 := Crc.xor_lt _ _ (Crc.fold_lt zs hz) (by omega)

end Go.Proofs.YthkoflpcinbgeaaDoor
