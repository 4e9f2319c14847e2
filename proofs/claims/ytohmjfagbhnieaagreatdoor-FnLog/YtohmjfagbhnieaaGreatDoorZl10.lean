/- Nodes: szNode, toNode, eqNode. The law on MayAccess: eqNode, the walk. NewState of the program and of the model; a state's two nodes held against each other, marked, held. -/
import Derived.Test.YtohmjfagbhnieaaGreatDoorZl09
import Derived.Test.YtohmjfagbhnieaaGreatDoorZl02
import Derived.Deep.RegionHeld
import Derived.Deep.MidRow
import Derived.Deep.RegionHeld3
namespace Go.Proofs.YtohmjfagbhnieaaGreatDoor
set_option linter.unusedVariables false
set_option linter.unusedSimpArgs false
open Go.RowKit

theorem own_aside {w : World} {base : Nat} {e : TypeId} {v : Value} {n : Nat} {xs : List Value} (hr : w.ownsRow base e 1 v n xs) (a : Addr) (u : Value) (hb : a.block < base) : (w.setCell a u).ownsRow base e 1 v n xs :=
  hr.kept (w' := w.setCell a u) (row := some a.block) ⟨rfl, rfl, rfl, by simp, fun k hk hne => Below.heap_setCell w a u k (fun e => hne (by rw [e]))⟩ (by
    cases hv : v.ownBlock with
    | none => exact .inl rfl
    | some k => exact .inr (fun e => by have := (hr.lt k hv).1; injection e with e; omega))

end Go.Proofs.YtohmjfagbhnieaaGreatDoor

namespace Go.Proofs.YtohmjfagbhnieaaGreatDoor
set_option linter.unusedVariables false
set_option linter.unusedSimpArgs false
open Go.RowKit

theorem infoN10 : (Tryz.prog.info? 61).map (·.size) = some 10 := by kernel_rfl
theorem node_range {w : World} {b : Nat} {C : Array Value} {t : TypeId} (h : Blk w b C t) : w.rangeAt b 0 C.toList := by
  intro j v hv
  rw [h.cell (0 + j), Nat.zero_add]
  simpa using hv

end Go.Proofs.YtohmjfagbhnieaaGreatDoor

namespace Go.Proofs.YtohmjfagbhnieaaGreatDoor
set_option linter.unusedVariables false
set_option linter.unusedSimpArgs false
open Go.RowKit

def nodes0 : Array Value := #[.int .i64 0, .int .i64 0, .int .i64 0, .int .i64 0, .int .i64 0, .int .i64 0, .int .i64 0, .int .i64 0, .int .i64 0, .slice none 0 0, .int .i64 2, .int .i64 2, .int .i64 493, .int .i64 0, .int .i64 0, .int .i64 1, .int .i64 1, .int .i64 1, .int .i64 1, .slice none 0 0]
def nodes1 : Array Value := #[.int .i64 1, .int .i64 2, .int .i64 3, .int .i64 4, .int .i64 5, .int .i64 6, .int .i64 7, .int .i64 8, .int .i64 9, .slice none 0 0, .int .i64 10, .int .i64 11, .int .i64 12, .int .i64 13, .int .i64 14, .int .i64 15, .int .i64 16, .int .i64 17, .int .i64 18, .slice none 0 0]
theorem specNew_any (w : World) : Calls Tryz.prog 9 #[] w fun e w' => ∃ B, e = .returned (.agg #[.int .i64 1, .slice (some ⟨B, 0, none⟩) 2 2]) ∧ Blk w' B nodes0 61 ∧ w.heap.size ≤ B ∧ Below w.heap.size w w' := by
  have KQ := hide (show ∀ o2 o3, Blk (((w.alloc (.cells #[.int .i64 1, .slice (some ⟨w.heap.size + 1 + 1, 0, none⟩) 2 2] 35)).alloc o2).alloc o3) w.heap.size #[.int .i64 1, .slice (some ⟨w.heap.size + 1 + 1, 0, none⟩) 2 2] 35 from fun o2 o3 => ((Blk.new _ _ _).alloc _).alloc _)
  go_enter Tryz.func9, Tryz.ntmps9
  go_wp2
  refine bodyPost_ret (v := .agg #[.int .i64 1, .slice (some ⟨w.heap.size + 1 + 1, 0, none⟩) 2 2]) ?_ rfl ⟨w.heap.size + 1 + 1, rfl, ?_, by omega, ?_⟩
  · exact results_cell_row rfl _ _ w.heap.size 35 #[.int .i64 1, .slice (some ⟨w.heap.size + 1 + 1, 0, none⟩) 2 2] (0, 0) _ rfl (KQ.out _ _) Tryz.underlying35 rfl (by kernel_rfl)
  · have h := Blk.new ((w.alloc (.cells #[.int .i64 1, .slice (some ⟨w.heap.size + 1 + 1, 0, none⟩) 2 2] 35)).alloc (.cells #[.int .i64 2, .int .i64 2, .int .i64 493, .int .i64 0, .int .i64 0, .int .i64 1, .int .i64 1, .int .i64 1, .int .i64 1, .slice none 0 0] 61)) nodes0 61
    simp only [World.size_alloc] at h
    exact h
  · exact (((Below.refl _ _).alloc (Nat.le_refl _) _).alloc (by simp) _).alloc (by simp; omega) _
theorem rd_nil (w : World) : Rd .u8 w (.slice none 0 0) [] := (Rd.of_row (show IsRow .u8 w none 0 0 [] from .inl ⟨rfl, rfl, rfl, rfl⟩)).1
theorem nodes_range0 {w : World} {b : Nat} (h : Blk w b nodes0 61) : w.rangeAt b 0 ([.int .i64 0, .int .i64 0, .int .i64 0, .int .i64 0, .int .i64 0, .int .i64 0, .int .i64 0, .int .i64 0, .int .i64 0, .slice none 0 0] : List Value) := by
  intro j v hv
  rw [h.cell (0 + j), Nat.zero_add]
  have hj : j < 10 := by
    rcases Nat.lt_or_ge j 10 with h1 | h1
    · exact h1
    · rw [List.getElem?_eq_none (by simp; omega)] at hv; cases hv
  match j, hj with
  | 0, _ | 1, _ | 2, _ | 3, _ | 4, _ | 5, _ | 6, _ | 7, _ | 8, _ | 9, _ => exact hv
theorem nodes_range1 {w : World} {b : Nat} (h : Blk w b nodes0 61) : w.rangeAt b 10 ([.int .i64 2, .int .i64 2, .int .i64 493, .int .i64 0, .int .i64 0, .int .i64 1, .int .i64 1, .int .i64 1, .int .i64 1, .slice none 0 0] : List Value) := by
  intro j v hv
  rw [h.cell (10 + j)]
  have hj : j < 10 := by
    rcases Nat.lt_or_ge j 10 with h1 | h1
    · exact h1
    · rw [List.getElem?_eq_none (by simp; omega)] at hv; cases hv
  match j, hj with
  | 0, _ | 1, _ | 2, _ | 3, _ | 4, _ | 5, _ | 6, _ | 7, _ | 8, _ | 9, _ => exact hv
end Go.Proofs.YtohmjfagbhnieaaGreatDoor
