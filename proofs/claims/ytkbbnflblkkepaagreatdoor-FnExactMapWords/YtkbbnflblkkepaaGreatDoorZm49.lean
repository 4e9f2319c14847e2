/- What a struct that came in is opened with. The letters of the root record out of what the start lays. -/
import Derived.Test.YtkbbnflblkkepaaGreatDoorZm07
import Derived.ProofKit
import Derived.OpenShut
import Derived.Test.YtkbbnflblkkepaaGreatDoorZm48
import Derived.Test.YtkbbnflblkkepaaGreatDoorZm01
import Derived.OpenVars
namespace Go.Proofs.YtkbbnflblkkepaaGreatDoor
set_option linter.unusedVariables false
set_option linter.unusedSimpArgs false
open Go.ChangeShapes Go.WideShapes Go.ChangeAt Go.RowKit

theorem cells1 : Tryz.prog.cellsOf 3 = 1 := by kernel_rfl
theorem cells12 : Tryz.prog.cellsOf 32 = 12 := by kernel_rfl
theorem take_one {l : List Value} {o : Nat} {c : Value} (h : (l.drop o).take 1 = [c]) : l[o]? = some c := by
  have h2 : ((l.drop o).take 1)[0]? = some c := by rw [h]; rfl
  simpa using h2

theorem ints_of_cells : ∀ (l : List Value), (∀ i, i < l.length → ∃ a, l[i]? = some (.int .i64 a)) → ∃ rs : List Int, l = rs.map (Value.int .i64)
  | [], _ => ⟨[], rfl⟩
  | c :: l, h => by
    obtain ⟨a, ha⟩ := h 0 (by simp)
    obtain ⟨rs, hrs⟩ := ints_of_cells l (fun i hi => by have := h (i + 1) (by simpa using hi); simpa using this)
    simp at ha
    exact ⟨a :: rs, by rw [ha, hrs]; rfl⟩

end Go.Proofs.YtkbbnflblkkepaaGreatDoor

namespace Go.Proofs.YtkbbnflblkkepaaGreatDoor
set_option linter.unusedVariables false
set_option linter.unusedSimpArgs false
open Go.ChangeShapes Go.WideShapes Go.ChangeAt Go.RowKit

theorem cellsU8M : Tryz.prog.cellsOf 5 = 1 := by kernel_rfl
theorem d_let : Tryz.prog.globalNamed "loop.example/s02533/impl.fsinfoLetters" = some 0 := by kernel_rfl
theorem d_lett : (Tryz.prog.globals[0]?).map (·.type) = some 94 := by kernel_rfl
theorem d_letu : Tryz.prog.underlying 94 = some (.array 8 5) := by kernel_rfl
theorem letF_of {W : World} (h : laidMet Tryz.prog [("loop.example/s02533/impl.fsinfoLetters", Rows.laid_loop_example_s02533_impl_fsinfoLetters)] W) : LetF W := by
  obtain ⟨ps, ⟨g, t, cs, fuel, p, q, h1, h2, h3, h4, _, _⟩, _⟩ := h
  obtain rfl := Option.some.inj (d_let.symm.trans h1)
  obtain rfl := Option.some.inj (d_lett.symm.trans h2)
  obtain ⟨xs, m, _, hx, hlen, hxl, hel⟩ := DataW.trod_array d_letu h4
  have hx1 : Rows.laid_loop_example_s02533_impl_fsinfoLetters = DataW.agg (xs.map (·.1)) := congrArg Prod.fst hx
  unfold Rows.laid_loop_example_s02533_impl_fsinfoLetters at hx1
  injection hx1 with hx2
  intro j v hv
  rw [Nat.zero_add, World.var?_cell d_let h3 j]
  have hj : j < 8 := by
    rcases Nat.lt_or_ge j 8 with h | h
    · exact h
    · rw [List.getElem?_eq_none (by simp [fsLet]; omega)] at hv; cases hv
  have he := hel j hj
  rw [cellsU8M, Nat.mul_one, List.getElem?_eq_getElem (by omega)] at he
  obtain ⟨a, ea, hxa, _⟩ := DataW.trod_int Tryz.underlying5 he
  have hc := take_one ea
  have hd : (xs.map (·.1))[j]? = some (.lit (.int .u8 a)) := by
    rw [List.getElem?_map, List.getElem?_eq_getElem (by omega), hxa]; rfl
  rw [← hx2] at hd
  rw [show cs[j]? = cs.toList[j]? from by simp, hc, ← hv]
  match j, hj with
  | 0, _ | 1, _ | 2, _ | 3, _ | 4, _ | 5, _ | 6, _ | 7, _ =>
    simp at hd
    subst hd
    rfl
/-- A world that meets both conditions. -/
noncomputable def laidWorldF (os : Os) : World :=
  let w0 := laidWorld os
  { w0 with heap := w0.heap.modify 0 fun
      | .cells _ t frozen => .cells #[.int .u8 114, .int .u8 111, .int .u8 111, .int .u8 116, .int .u8 114, .int .u8 101, .int .u8 99, .int .u8 49] t frozen
      | o => o }
end Go.Proofs.YtkbbnflblkkepaaGreatDoor
