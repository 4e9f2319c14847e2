/- Structs and arrays of integers by value: a copy of twelve, a copy of a root. -/
import Derived.Test.YtlegmaadcemgnaaDoorBase
import Derived.Test.YtlegmaadcemgnaaDoorRows
import Derived.Test.YtlegmaadcemgnaaDoorCells
import Derived.WalkLawsBesides
import Derived.Deep.MidRow
import Derived.Deep.WholeRow
import Derived.Laws.CopyOwn

namespace Go.Proofs.YtlegmaadcemgnaaDoor
set_option linter.unusedVariables false
set_option linter.unusedSimpArgs false
open Go.RowKit

theorem info12 : (Tryd.prog.info? 32).map (·.size) = some 12 := by kernel_rfl
theorem infoL15 : (Tryd.prog.info? 43).map (·.size) = some 15 := by kernel_rfl
theorem info15 : (Tryd.prog.info? 34).map (·.size) = some 15 := by kernel_rfl

set_option maxRecDepth 100000 in
set_option maxHeartbeats 400000 in
theorem toIntA12_any (ds : List Int) (w : World) (hd : ds.length = 12) :
    Calls Tryd.prog 36 #[.agg (cellsI ds)] w fun e w' => e = .returned (.agg (cellsI ds)) ∧ Below w.heap.size w w' := by
  have HD := hide hd
  clear hd
  go_enter Tryd.func36, Tryd.ntmps36
  go_wp2
  go_loopw [4] (fun i wr => ∃ k : Nat, k ≤ 12 ∧ i = .int .i64 k ∧ Blk wr w.heap.size (cellsI ds) 32 ∧ Blk wr (w.heap.size + 1) (cellsI (List.replicate 12 0)) 32 ∧ Blk wr (w.heap.size + 1 + 1) (cellsI (ds.take k ++ List.replicate (12 - k) 0)) 32 ∧ Below w.heap.size w wr) (fun i _ => 12 - (intOf i).toNat)
  case atStart =>
    refine ⟨0, by omega, rfl, ((Blk.new w _ _).alloc _).alloc _, ?_, ?_, (((Below.refl _ _).alloc (Nat.le_refl _) _).alloc (by simp) _).alloc (by simp; omega) _⟩
    · have h := (Blk.new (w.alloc (.cells (cellsI ds) 32)) (cellsI (List.replicate 12 0)) 32).alloc (.cells (cellsI (List.replicate 12 0)) 32)
      rw [World.size_alloc] at h
      exact h
    · have h := Blk.new ((w.alloc (.cells (cellsI ds) 32)).alloc (.cells (cellsI (List.replicate 12 0)) 32)) (cellsI (List.replicate 12 0)) 32
      rw [World.size_alloc, World.size_alloc] at h
      exact h
  case round =>
    obtain ⟨k, hk, rfl, h1, h2, h3, hb⟩ := hrel
    by_cases hlt : k < 12
    · have c1 := h1.cell k
      rw [cellsI_get ds k (by rw [HD.out]; exact hlt)] at c1
      obtain ⟨old, c3⟩ : ∃ u, wr.cell? ⟨w.heap.size + 1 + 1, k, none⟩ = some u := by
        rw [h3.cell k]
        exact ⟨_, Array.getElem?_eq_getElem (by rw [cellsI_size]; have := HD.out; simp; omega)⟩
      have f3 := h3.frozen k
      have HS := hide (set_cells ds k 12 hlt HD.out)
      generalize ds.getD k 0 = z at c1 HS
      have HW := hide (show Blk (wr.setCell ⟨w.heap.size + 1 + 1, k, none⟩ (.int .i64 z)) w.heap.size (cellsI ds) 32 ∧ Blk (wr.setCell ⟨w.heap.size + 1 + 1, k, none⟩ (.int .i64 z)) (w.heap.size + 1) (cellsI (List.replicate 12 0)) 32 ∧ Blk (wr.setCell ⟨w.heap.size + 1 + 1, k, none⟩ (.int .i64 z)) (w.heap.size + 1 + 1) (cellsI (ds.take (k + 1) ++ List.replicate (12 - (k + 1)) 0)) 32 ∧ Below w.heap.size w (wr.setCell ⟨w.heap.size + 1 + 1, k, none⟩ (.int .i64 z)) from by
        refine ⟨h1.other _ _ (by show _ ≠ w.heap.size + 1 + 1; omega), h2.other _ _ (by show _ ≠ w.heap.size + 1 + 1; omega), ?_, hb.setCell (by show _ ≤ w.heap.size + 1 + 1; omega) _⟩
        rw [← HS.out]
        exact h3.set k _)
      clear h1 h2 h3 hb
      go_wp2
      go_roundw
      case rel => exact ⟨k + 1, by omega, by go_num, HW.out.1, HW.out.2.1, HW.out.2.2.1, HW.out.2.2.2⟩
      case measure => simp [intOf]; omega
    · have hk12 : k = 12 := by omega
      subst hk12
      rw [List.take_of_length_le (by rw [HD.out]; omega), Nat.sub_self, List.replicate_zero, List.append_nil] at h3
      have hsz : (cellsI ds).size = 12 := by rw [cellsI_size]; exact HD.out
      have HB := hide (And.intro h2 (And.intro h3 hb))
      have HZ := hide hsz
      clear h1 h2 h3 hb hsz
      go_wp2_with (first | (refine wpList_load_row rfl 32 _ rfl (w.heap.size + 1 + 1) rfl 32 (cellsI ds) (0, 0) _ HB.out.2.1 Tryd.underlying32 rfl (by rw [HZ.out]; exact info12) ?_) | (refine wpList_store_row rfl 32 _ _ rfl (w.heap.size + 1) (cellsI ds) rfl rfl 32 _ HB.out.1 (by rw [HZ.out]; exact info12) (by rw [HZ.out]; rfl) (cellsI_one ds) ?_))
      refine bodyPost_ret (v := .agg (cellsI ds)) ?_ rfl ⟨rfl, ?_⟩
      · exact results_cell_row rfl _ _ (w.heap.size + 1) 32 (cellsI ds) (0, 0) _ rfl (HB.out.1.row _) Tryd.underlying32 rfl (by rw [HZ.out]; exact info12)
      · exact below_setRow HB.out.2.2 (by omega) _
end Go.Proofs.YtlegmaadcemgnaaDoor
