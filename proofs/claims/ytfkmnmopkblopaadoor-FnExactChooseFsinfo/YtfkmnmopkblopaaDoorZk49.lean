/- A root record that came in, opened; the letters out of what the start lays. -/
import Derived.Test.YtfkmnmopkblopaaDoorZk48
import Derived.Test.YtfkmnmopkblopaaDoorZk02
import Derived.ProofKit
import Derived.OpenShut
import Derived.OpenVars
namespace Go.Proofs.YtfkmnmopkblopaaDoor
set_option linter.unusedVariables false
set_option linter.unusedSimpArgs false
open Go.ChangeShapes Go.WideShapes Go.ChangeAt Go.RowKit

theorem cells31 : Tryd.prog.cellsOf 26 = 31 := by kernel_rfl
theorem cellsU8 : Tryd.prog.cellsOf 5 = 1 := by kernel_rfl
theorem split_fs (rs : List Int) (h : rs.length = 68) : ∃ gen bl cu ck op ev lg s1 ds1 p1 q1 s2 ds2 p2 q2 sn, ds1.length = 12 ∧ ds2.length = 12 ∧ sn.length = 31 ∧ rs = fsI gen bl cu ck op ev lg s1 ds1 p1 q1 s2 ds2 p2 q2 sn := by
  have root : ∀ l : List Int, l.length = 15 → ∃ s ds p q, ds.length = 12 ∧ l = rootI s ds p q := by
    intro l hl
    match l, hl with
    | [s, d0, d1, d2, d3, d4, d5, d6, d7, d8, d9, d10, d11, p, q], _ => exact ⟨s, [d0, d1, d2, d3, d4, d5, d6, d7, d8, d9, d10, d11], p, q, rfl, rfl⟩
  have seven : ∀ l : List Int, l.length = 7 → ∃ a b c d e f g, l = [a, b, c, d, e, f, g] := by
    intro l hl
    match l, hl with
    | [a, b, c, d, e, f, g], _ => exact ⟨a, b, c, d, e, f, g, rfl⟩
  obtain ⟨a, b, c, d, e, f, g, h7⟩ := seven (rs.take 7) (by simp [h])
  obtain ⟨s1, ds1, p1, q1, hd1, hr1⟩ := root ((rs.drop 7).take 15) (by simp [h])
  obtain ⟨s2, ds2, p2, q2, hd2, hr2⟩ := root (((rs.drop 7).drop 15).take 15) (by simp [h])
  refine ⟨a, b, c, d, e, f, g, s1, ds1, p1, q1, s2, ds2, p2, q2, ((rs.drop 7).drop 15).drop 15, hd1, hd2, by simp [h], ?_⟩
  unfold fsI
  rw [← h7, ← hr1, ← hr2, List.take_append_drop, List.take_append_drop, List.take_append_drop]
theorem d_let : Tryd.prog.globalNamed "loop.example/s02533/impl.fsinfoLetters" = some 0 := by kernel_rfl
theorem d_lett : (Tryd.prog.globals[0]?).map (·.type) = some 83 := by kernel_rfl
theorem d_letu : Tryd.prog.underlying 83 = some (.array 8 5) := by kernel_rfl
theorem letF_of {W : World} (h : laidMet Tryd.prog [("loop.example/s02533/impl.fsinfoLetters", Rows.laid_loop_example_s02533_impl_fsinfoLetters)] W) : LetF W := by
  obtain ⟨ps, ⟨g, t, cs, fuel, p, q, h1, h2, h3, h4, _, _⟩, _⟩ := h
  obtain rfl := Option.some.inj (d_let.symm.trans h1)
  obtain rfl := Option.some.inj (d_lett.symm.trans h2)
  obtain ⟨xs, m, _, hx, hlen, hxl, hel⟩ := DataW.trod_array d_letu h4
  have hx1 : Rows.laid_loop_example_s02533_impl_fsinfoLetters = DataW.agg (xs.map (·.1)) := congrArg Prod.fst hx
  unfold Rows.laid_loop_example_s02533_impl_fsinfoLetters at hx1
  injection hx1 with hx2
  intro j v hv
  rw [Nat.zero_add, World.var?_cell d_let h3 j]
  have hj : j < 8 := by
    rcases Nat.lt_or_ge j 8 with h | h
    · exact h
    · rw [List.getElem?_eq_none (by simp [fsLet]; omega)] at hv; cases hv
  have he := hel j hj
  rw [cellsU8, Nat.mul_one, List.getElem?_eq_getElem (by omega)] at he
  obtain ⟨a, ea, hxa, _⟩ := DataW.trod_int Tryd.underlying5 he
  have hc := take_one ea
  have hd : (xs.map (·.1))[j]? = some (.lit (.int .u8 a)) := by
    rw [List.getElem?_map, List.getElem?_eq_getElem (by omega), hxa]; rfl
  rw [← hx2] at hd
  rw [show cs[j]? = cs.toList[j]? from by simp, hc, ← hv]
  match j, hj with
  | 0, _ | 1, _ | 2, _ | 3, _ | 4, _ | 5, _ | 6, _ | 7, _ =>
    simp at hd
    subst hd
    rfl
/-- A world that meets both conditions. -/
noncomputable def laidWorldF (os : Os) : World :=
  let w0 := laidWorld os
  { w0 with heap := w0.heap.modify 0 fun
      | .cells _ t frozen => .cells #[.int .u8 114, .int .u8 111, .int .u8 111, .int .u8 116, .int .u8 114, .int .u8 101, .int .u8 99, .int .u8 49] t frozen
      | o => o }
end Go.Proofs.YtfkmnmopkblopaaDoor
