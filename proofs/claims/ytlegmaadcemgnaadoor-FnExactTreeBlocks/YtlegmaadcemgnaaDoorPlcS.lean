/- Where a data block hangs: the model's PlaceOf. -/
import Derived.Test.YtlegmaadcemgnaaDoorCells
import Derived.WalkLawsBesides
import Derived.Laws.ResultCell
import Derived.Deep.WholeRow
namespace Go.Proofs.YtlegmaadcemgnaaDoor
set_option linter.unusedVariables false
set_option linter.unusedSimpArgs false
open Go.RowKit

theorem infoP3 : (Tryd.prog.info? 27).map (·.size) = some 3 := by kernel_rfl
def placeV (l o i c : Int) : Value := .tuple #[.agg #[.int .i64 l, .int .i64 o, .int .i64 i], .int .i64 c]
set_option maxRecDepth 100000 in
set_option maxHeartbeats 400000 in
theorem specP_0 (x : Nat) (w : World) (h : x < 12) :
    Calls Tryd.prog 59 #[.int .i64 x] w fun e w' => e = .returned (placeV 0 0 x 0) ∧ Below w.heap.size w w' := by
  have HB := hide (show ∀ C, Below w.heap.size w (w.alloc C) from fun C => (Below.refl _ _).alloc (Nat.le_refl _) _)
  go_enter Tryd.func59, Tryd.ntmps59
  go_wp2
  refine bodyPost_ret (v := placeV 0 0 x 0) ?_ rfl ⟨rfl, HB.out _⟩
  exact results_row_tmp rfl _ _ w.heap.size 27 _ (0, 0) _ _ rfl rfl (heap_alloc_new w _) Tryd.underlying27 rfl infoP3
set_option maxRecDepth 100000 in
set_option maxHeartbeats 400000 in
theorem specP_1 (x : Nat) (w : World) (h : x < 128) :
    Calls Tryd.prog 59 #[.int .i64 ((x + 12 : Nat) : Int)] w fun e w' => e = .returned (placeV 1 0 x 0) ∧ Below w.heap.size w w' := by
  have HB := hide (show ∀ C, Below w.heap.size w (w.alloc C) from fun C => (Below.refl _ _).alloc (Nat.le_refl _) _)
  go_enter Tryd.func59, Tryd.ntmps59
  go_wp2
  refine bodyPost_ret (v := placeV 1 0 x 0) ?_ rfl ⟨rfl, HB.out _⟩
  exact results_row_tmp rfl _ _ w.heap.size 27 _ (0, 0) _ _ rfl rfl (heap_alloc_new w _) Tryd.underlying27 rfl infoP3
set_option maxRecDepth 100000 in
set_option maxHeartbeats 400000 in
theorem specP_2 (x : Nat) (w : World) (h : x < 372) :
    Calls Tryd.prog 59 #[.int .i64 ((x + 140 : Nat) : Int)] w fun e w' => e = .returned (placeV 2 ((x / 128 : Nat) : Int) ((x % 128 : Nat) : Int) 0) ∧ Below w.heap.size w w' := by
  have HB := hide (show ∀ C, Below w.heap.size w (w.alloc C) from fun C => (Below.refl _ _).alloc (Nat.le_refl _) _)
  go_enter Tryd.func59, Tryd.ntmps59
  go_wp2
  have e1 : (x : Int) / 128 = ((x / 128 : Nat) : Int) := by omega
  have e2 : (x : Int) % 128 = ((x % 128 : Nat) : Int) := by omega
  rw [e1, e2]
  refine bodyPost_ret (v := placeV 2 ((x / 128 : Nat) : Int) ((x % 128 : Nat) : Int) 0) ?_ rfl ⟨rfl, HB.out _⟩
  exact results_row_tmp rfl _ _ w.heap.size 27 _ (0, 0) _ _ rfl rfl (heap_alloc_new w _) Tryd.underlying27 rfl infoP3

end Go.Proofs.YtlegmaadcemgnaaDoor
