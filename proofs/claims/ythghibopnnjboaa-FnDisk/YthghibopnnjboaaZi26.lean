/- A copy of a slice of Put: toPutS. -/
import Derived.Test.YthghibopnnjboaaZi22
namespace Go.Proofs.Ythghibopnnjboaa
set_option linter.unusedVariables false
set_option linter.unusedSimpArgs false
open Go.RowKit

theorem there_row {w : World} {base : Nat} {e : TypeId} {g n cap sz : Nat} {xs : List Value} (h : w.ownsRow base e sz (.slice (some ⟨g, 0, none⟩) n cap) n xs) {o m : Nat} (hk : o + m ≤ n * sz) : w.there g o m := by
  rcases h.2 with ⟨e, _⟩ | ⟨g', cap', cur, e, hb, hc, hn, hm, hs, ht⟩
  · cases e
  · injection e with e1 e2 e3
    injection e1 with e1
    injection e1 with e1 e4
    subst e1
    intro j hj
    have hlt : o + j < cur.size := by
      have : n * sz ≤ cap' * sz := Nat.mul_le_mul_right _ hn
      rw [hs]; omega
    have hB : Blk w g cur _ := hc
    refine ⟨?_, hB.frozen _⟩
    rw [hB.cell (o + j), Array.getElem?_eq_getElem hlt]
    rfl
theorem made_put (n : Nat) : (madeCells (Value.agg #[.int .i64 0, .slice none 0 0]).cells (n * 2)).toList = cellsN (List.replicate n (.slice none 0 0)) ((List.replicate n ((0 : Int), ([] : List Int))).map neP) := by
  apply List.ext_getElem?
  intro j
  by_cases hj : j < n * 2
  · have h1 := cellsN_get 1 (List.replicate n (.slice none 0 0)) ((List.replicate n ((0 : Int), ([] : List Int))).map neP) (by simp) (neP_pre _) (j / 2) (j % 2) (.slice none 0 0) (neP (0, [])) (by rw [List.getElem?_replicate, if_pos (by omega)]) (by rw [List.getElem?_map, List.getElem?_replicate, if_pos (by omega)]; rfl) (by omega)
    rw [show j / 2 * (1 + 1) + j % 2 = j by omega] at h1
    rw [h1]
    rcases (by omega : j % 2 = 0 ∨ j % 2 = 1) with h | h
    · rw [h]; simp [madeCells, hj, h, Value.cells, neP]
    · rw [h]; simp [madeCells, hj, h, Value.cells, neP]
  · rw [List.getElem?_eq_none (l := cellsN _ _) (by rw [cellsN_len 1 _ _ (by simp) (neP_pre _)]; simp; omega)]
    simp [madeCells, hj]
theorem fill_put (P : List (Int × List Int)) (k : Nat) (p : Int × List Int) (hp : P[k]? = some p) : (P.take k ++ List.replicate (P.length - k) ((0 : Int), ([] : List Int))).set k p = P.take (k + 1) ++ List.replicate (P.length - (k + 1)) (0, []) := by
  have hk : k < P.length := (List.getElem?_eq_some_iff.1 hp).1
  have e : P.take (k + 1) = P.take k ++ [p] := by rw [List.take_add_one, hp]; rfl
  rw [e, show P.length - k = (P.length - (k + 1)) + 1 by omega, List.replicate_succ, List.set_append_right _ _ (by simp; omega)]
  have : k - (P.take k).length = 0 := by simp; omega
  rw [this]
  simp
end Go.Proofs.Ythghibopnnjboaa
