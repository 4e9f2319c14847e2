/- The program's look at a root: isPointer, blocksOf, pointersFault, rootFault. -/
import Derived.Test.YthkoflpcinbgeaaDoorRootD
import Derived.Test.YthkoflpcinbgeaaDoorCheck
import Derived.Test.YthkoflpcinbgeaaDoorMarks
namespace Go.Proofs.YthkoflpcinbgeaaDoor
set_option linter.unusedVariables false
set_option linter.unusedSimpArgs false
open Go.RowKit

theorem all_take' (f : Int → Bool) (ds : List Int) (k : Nat) (h : k < ds.length) : (ds.take (k + 1)).all f = ((ds.take k).all f && f (ds.getD k 0)) := by
  rw [List.take_succ_eq_append_getElem h, List.all_append]
  simp [List.getD, h]
/-- What the loops keep: the boxed root, the check, and all that is older. -/
structure Kp (w wr : World) (C : Array Value) (t : TypeId) (code : Int) (ok : Bool) : Prop where
  blk : Blk wr w.heap.size C t
  ck : Ck wr (w.heap.size + 1) (w.heap.size + 1 + 1) code ok
  old : Below w.heap.size w wr
theorem Kp.lo {w wr : World} {C : Array Value} {t : TypeId} {code : Int} {ok : Bool} (h : Kp w wr C t code ok) : w.heap.size + 1 + 1 ≤ wr.heap.size := h.ck.lt
theorem Kp.tch {w wr w' : World} {C : Array Value} {t : TypeId} {code : Int} {ok ok' : Bool} (h : Kp w wr C t code ok) (hc : Ck w' (w.heap.size + 1) (w.heap.size + 1 + 1) code ok') (ht : Tch (w.heap.size + 1) wr w') : Kp w w' C t code ok' :=
  ⟨(ht.1.block _ h.blk.lt (by simp)).trans h.blk, hc, ht.under h.old (by omega) (Nat.le_of_lt h.blk.lt)⟩
theorem Kp.fault {w wr : World} {C : Array Value} {t : TypeId} {code : Int} {ok : Bool} (h : Kp w wr C t code ok) : ∃ ev, wr.cell? ⟨w.heap.size + 1, 1, none⟩ = some ev ∧ FaultIs wr w.heap.size ok ev code := by
  obtain ⟨_, _, ev, c3, c4⟩ := h.ck
  refine ⟨ev, c3, ?_⟩
  rcases c4 with c4 | ⟨c4, n, c5⟩
  · exact .inl c4
  · exact .inr ⟨c4, n, c5.mono (by omega)⟩

def ptrsB (ds : List Int) (p q n : Int) : Bool := (ds.all fun x => ptrB x n) && ptrB p n && ptrB q n

/-- The program's own way of saying rightR. -/
def rightI (s : Int) (ds : List Int) (p q y : Int) : Bool :=
  (((((decide (0 ≤ s) && decide (s ≤ 262144)) && ptrsB ds p q 2048) && ((List.range 12).all fun i => decide (ds.getD i 0 = 0) || decide ((i : Int) < y))) && (decide (p = 0) || decide (12 < y))) && (decide (q = 0) || decide (140 < y)))
theorem right_eq (s : Int) (ds : List Int) (p q y : Int) (hd : ds.length = 12) (hy : 0 ≤ s → s ≤ 262144 → y = (s + 511) / 512) : rightI s ds p q y = rightR s ds p q := by
  unfold rightI rightR
  by_cases h1 : 0 ≤ s
  · by_cases h2 : s ≤ 262144
    · rw [hy h1 h2]
      match ds, hd with
      | [d0, d1, d2, d3, d4, d5, d6, d7, d8, d9, d10, d11], _ =>
        simp [ptrsB, allR, okAt, lst, h1, h2, List.range, List.range.loop, List.getD]
        ac_rfl
    · simp [h2]
  · simp [h1]
end Go.Proofs.YthkoflpcinbgeaaDoor
