/- errors.as, errors.As and codeOf walked at a chain of faults: the code of the form fault at its end. -/
import Derived.Test.YthghibopnnjboaaZi08
namespace Go.Proofs.Ythghibopnnjboaa
open Go.RowKit Go.Extern.Stop Go.Stop Go.Extern

theorem hit_after {w w' : World} {bt e : Nat} {c : Int} (ht : w.cell? ⟨bt, 0, none⟩ = some (.pointer none)) (he : w.cell? ⟨e, 0, none⟩ = some (.int .i64 c))
    (hb : Below w.heap.size (w.setCell ⟨bt, 0, none⟩ (.pointer (some ⟨e, 0, none⟩))) w') :
    w'.cell? ⟨bt, 0, none⟩ = some (.pointer (some ⟨e, 0, none⟩)) ∧ w'.cell? ⟨e, 0, none⟩ = some (.int .i64 c) ∧ w.grownBy w' (some bt) := by
  have hne : (⟨bt, 0, none⟩ : Addr) ≠ ⟨e, 0, none⟩ := by
    intro h
    rw [h, he] at ht
    simp at ht
  refine ⟨?_, ?_, ?_⟩
  · rw [hb.cell (p := ⟨bt, 0, none⟩) (cell_lt ht)]
    exact World.cell?_setCell_same _ _ _ ht
  · rw [hb.cell (p := ⟨e, 0, none⟩) (cell_lt he), World.cell?_setCell_other _ _ _ _ hne]
    exact he
  · refine ⟨hb.os, hb.tape, hb.output, Nat.le_trans (by simp) hb.size, fun k hk hn => ?_⟩
    rw [hb.block k hk]
    exact Below.heap_setCell w _ _ k (fun h => hn (by rw [h]))
theorem grownBy_pre {B : Nat} {w w1 w' : World} {bt : Nat} (hb : Below B w w1) (hB : w.heap.size ≤ B) (hg : w1.grownBy w' (some bt)) : w.grownBy w' (some bt) :=
  ⟨hg.os.trans hb.os, hg.tape.trans hb.tape, hg.output.trans hb.output, Nat.le_trans hb.size hg.size, fun k hk hn => (hg.block k (Nat.lt_of_lt_of_le hk hb.size) hn).trans (hb.block k (Nat.lt_of_lt_of_le hk hB))⟩

end Go.Proofs.Ythghibopnnjboaa
