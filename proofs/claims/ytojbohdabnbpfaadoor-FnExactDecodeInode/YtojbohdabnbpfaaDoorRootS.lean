/- The program tells a root: told at Root; DecodeRoot. -/
import Derived.Test.YtojbohdabnbpfaaDoorRootR
import Derived.Test.YtojbohdabnbpfaaDoorRootI

namespace Go.Proofs.YtojbohdabnbpfaaDoor
set_option linter.unusedVariables false
set_option linter.unusedSimpArgs false
open Go.RowKit


def noRoot : List Int := List.replicate 15 0

set_option maxRecDepth 100000 in
set_option maxHeartbeats 1000000 in
theorem toldR_ok (xs : List Int) (w : World) (hx : xs.length = 15) :
    Calls Tryd.prog 62 #[.agg (cellsI xs), .nilIface] w fun e w' => e = .returned (.tuple #[.agg (cellsI xs), .int .i64 0]) ∧ Below w.heap.size w w' := by
  have HZ := hide (show (cellsI xs).size = 15 from by rw [cellsI_size]; exact hx)
  have kB := (Blk.new w (cellsI xs) 36).alloc (.cells (cellsI noRoot) 36)
  have kC := Blk.new (w.alloc (.cells (cellsI xs) 36)) (cellsI noRoot) 36
  rw [World.size_alloc] at kC
  have K := hide (And.intro kB (And.intro kC (((Below.refl w.heap.size w).alloc (Nat.le_refl _) (.cells (cellsI xs) 36)).alloc (by simp) (.cells (cellsI noRoot) 36))))
  clear kB kC hx
  go_enter Tryd.func62, Tryd.ntmps62
  go_wp2_with (first | (refine wpList_load_row rfl 36 _ rfl w.heap.size rfl 36 (cellsI xs) (0, 0) _ K.out.1 Tryd.underlying36 rfl (by rw [HZ.out]; exact info15) ?_) | (refine wpList_store_row rfl 36 _ _ rfl (w.heap.size + 1) (cellsI xs) rfl rfl 36 _ K.out.2.1 (by rw [HZ.out]; exact info15) (by rw [HZ.out]; rfl) (cellsI_one _) ?_))
  refine bodyPost_ret (v := .tuple #[.agg (cellsI xs), .int .i64 0]) ?_ rfl ⟨rfl, below_setRow K.out.2.2 (by omega) _⟩
  exact results_row_tmp rfl _ _ (w.heap.size + 1) 36 (cellsI xs) (0, 0) _ _ rfl rfl (K.out.2.1.row _) Tryd.underlying36 rfl (by rw [HZ.out]; exact info15)

set_option maxRecDepth 100000 in
set_option maxHeartbeats 1000000 in
theorem toldR_bad (xs : List Int) (lo n : Nat) (v : Value) (c : Int) (w : World) (hx : xs.length = 15) (hv : Flt w lo n v c) (hg : ErrT w) :
    Calls Tryd.prog 62 #[.agg (cellsI xs), v] w fun e w' => e = .returned (.tuple #[.agg (cellsI noRoot), .int .i64 c]) ∧ Below w.heap.size w w' := by
  have HZ := hide (show (cellsI xs).size = 15 from by rw [cellsI_size]; exact hx)
  have HV := hide (And.intro hv hg)
  obtain ⟨t', x', rfl⟩ := hv.iface
  clear hv hg hx
  go_enter Tryd.func62, Tryd.ntmps62
  have kB := ((Blk.new (w.alloc (.cells (cellsI xs) 36)) #[.int .i64 0, .int .i64 0, .int .i64 0, .int .i64 0, .int .i64 0, .int .i64 0, .int .i64 0, .int .i64 0, .int .i64 0, .int .i64 0, .int .i64 0, .int .i64 0, .int .i64 0, .int .i64 0, .int .i64 0] 36).alloc (.cells #[.int .i64 0, .int .i64 0, .int .i64 0, .int .i64 0, .int .i64 0, .int .i64 0, .int .i64 0, .int .i64 0, .int .i64 0, .int .i64 0, .int .i64 0, .int .i64 0, .int .i64 0, .int .i64 0, .int .i64 0] 36))
  have kC := Blk.new ((w.alloc (.cells (cellsI xs) 36)).alloc (.cells #[.int .i64 0, .int .i64 0, .int .i64 0, .int .i64 0, .int .i64 0, .int .i64 0, .int .i64 0, .int .i64 0, .int .i64 0, .int .i64 0, .int .i64 0, .int .i64 0, .int .i64 0, .int .i64 0, .int .i64 0] 36)) #[.int .i64 0, .int .i64 0, .int .i64 0, .int .i64 0, .int .i64 0, .int .i64 0, .int .i64 0, .int .i64 0, .int .i64 0, .int .i64 0, .int .i64 0, .int .i64 0, .int .i64 0, .int .i64 0, .int .i64 0] 36
  rw [World.size_alloc] at kB
  rw [World.size_alloc, World.size_alloc] at kC
  have K := hide (And.intro kB (And.intro kC ((((Below.refl w.heap.size w).alloc (Nat.le_refl _) (.cells (cellsI xs) 36)).alloc (by simp) (.cells #[.int .i64 0, .int .i64 0, .int .i64 0, .int .i64 0, .int .i64 0, .int .i64 0, .int .i64 0, .int .i64 0, .int .i64 0, .int .i64 0, .int .i64 0, .int .i64 0, .int .i64 0, .int .i64 0, .int .i64 0] 36)).alloc (by simp; omega) (.cells #[.int .i64 0, .int .i64 0, .int .i64 0, .int .i64 0, .int .i64 0, .int .i64 0, .int .i64 0, .int .i64 0, .int .i64 0, .int .i64 0, .int .i64 0, .int .i64 0, .int .i64 0, .int .i64 0, .int .i64 0] 36))))
  clear kB kC
  go_wp2
  generalize hW : ((w.alloc (.cells (cellsI xs) 36)).alloc (.cells #[.int .i64 0, .int .i64 0, .int .i64 0, .int .i64 0, .int .i64 0, .int .i64 0, .int .i64 0, .int .i64 0, .int .i64 0, .int .i64 0, .int .i64 0, .int .i64 0, .int .i64 0, .int .i64 0, .int .i64 0] 36)).alloc (.cells #[.int .i64 0, .int .i64 0, .int .i64 0, .int .i64 0, .int .i64 0, .int .i64 0, .int .i64 0, .int .i64 0, .int .i64 0, .int .i64 0, .int .i64 0, .int .i64 0, .int .i64 0, .int .i64 0, .int .i64 0] 36) = W at K ⊢
  have hWs : W.heap.size = w.heap.size + 3 := by rw [← hW]; simp
  clear hW
  have q0 : W.cell? ⟨w.heap.size + 1 + 1, 0, none⟩ = some (.int .i64 0) := K.out.2.1.cell 0
  have q1 : W.cell? ⟨w.heap.size + 1 + 1, 1, none⟩ = some (.int .i64 0) := K.out.2.1.cell 1
  have q2 : W.cell? ⟨w.heap.size + 1 + 1, 2, none⟩ = some (.int .i64 0) := K.out.2.1.cell 2
  have q3 : W.cell? ⟨w.heap.size + 1 + 1, 3, none⟩ = some (.int .i64 0) := K.out.2.1.cell 3
  have q4 : W.cell? ⟨w.heap.size + 1 + 1, 4, none⟩ = some (.int .i64 0) := K.out.2.1.cell 4
  have q5 : W.cell? ⟨w.heap.size + 1 + 1, 5, none⟩ = some (.int .i64 0) := K.out.2.1.cell 5
  have q6 : W.cell? ⟨w.heap.size + 1 + 1, 6, none⟩ = some (.int .i64 0) := K.out.2.1.cell 6
  have q7 : W.cell? ⟨w.heap.size + 1 + 1, 7, none⟩ = some (.int .i64 0) := K.out.2.1.cell 7
  have q8 : W.cell? ⟨w.heap.size + 1 + 1, 8, none⟩ = some (.int .i64 0) := K.out.2.1.cell 8
  have q9 : W.cell? ⟨w.heap.size + 1 + 1, 9, none⟩ = some (.int .i64 0) := K.out.2.1.cell 9
  have q10 : W.cell? ⟨w.heap.size + 1 + 1, 10, none⟩ = some (.int .i64 0) := K.out.2.1.cell 10
  have q11 : W.cell? ⟨w.heap.size + 1 + 1, 11, none⟩ = some (.int .i64 0) := K.out.2.1.cell 11
  have q12 : W.cell? ⟨w.heap.size + 1 + 1, 12, none⟩ = some (.int .i64 0) := K.out.2.1.cell 12
  have q13 : W.cell? ⟨w.heap.size + 1 + 1, 13, none⟩ = some (.int .i64 0) := K.out.2.1.cell 13
  have q14 : W.cell? ⟨w.heap.size + 1 + 1, 14, none⟩ = some (.int .i64 0) := K.out.2.1.cell 14
  have r0 : W.cell? ⟨w.heap.size + 1, 0, none⟩ = some (.int .i64 0) := K.out.1.cell 0
  have r1 : W.cell? ⟨w.heap.size + 1, 1, none⟩ = some (.int .i64 0) := K.out.1.cell 1
  have r2 : W.cell? ⟨w.heap.size + 1, 2, none⟩ = some (.int .i64 0) := K.out.1.cell 2
  have r3 : W.cell? ⟨w.heap.size + 1, 3, none⟩ = some (.int .i64 0) := K.out.1.cell 3
  have r4 : W.cell? ⟨w.heap.size + 1, 4, none⟩ = some (.int .i64 0) := K.out.1.cell 4
  have r5 : W.cell? ⟨w.heap.size + 1, 5, none⟩ = some (.int .i64 0) := K.out.1.cell 5
  have r6 : W.cell? ⟨w.heap.size + 1, 6, none⟩ = some (.int .i64 0) := K.out.1.cell 6
  have r7 : W.cell? ⟨w.heap.size + 1, 7, none⟩ = some (.int .i64 0) := K.out.1.cell 7
  have r8 : W.cell? ⟨w.heap.size + 1, 8, none⟩ = some (.int .i64 0) := K.out.1.cell 8
  have r9 : W.cell? ⟨w.heap.size + 1, 9, none⟩ = some (.int .i64 0) := K.out.1.cell 9
  have r10 : W.cell? ⟨w.heap.size + 1, 10, none⟩ = some (.int .i64 0) := K.out.1.cell 10
  have r11 : W.cell? ⟨w.heap.size + 1, 11, none⟩ = some (.int .i64 0) := K.out.1.cell 11
  have r12 : W.cell? ⟨w.heap.size + 1, 12, none⟩ = some (.int .i64 0) := K.out.1.cell 12
  have r13 : W.cell? ⟨w.heap.size + 1, 13, none⟩ = some (.int .i64 0) := K.out.1.cell 13
  have r14 : W.cell? ⟨w.heap.size + 1, 14, none⟩ = some (.int .i64 0) := K.out.1.cell 14
  have hfz : ∀ o, W.frozen? ⟨w.heap.size + 1, o, none⟩ = false := fun o => K.out.1.frozen o
  go_region_held (fun w' => w'.cell? ⟨w.heap.size + 1 + 1, 0, none⟩ = some (.int .i64 0) ∧ w'.cell? ⟨w.heap.size + 1 + 1, 1, none⟩ = some (.int .i64 0) ∧ w'.cell? ⟨w.heap.size + 1 + 1, 2, none⟩ = some (.int .i64 0) ∧ w'.cell? ⟨w.heap.size + 1 + 1, 3, none⟩ = some (.int .i64 0) ∧ w'.cell? ⟨w.heap.size + 1 + 1, 4, none⟩ = some (.int .i64 0) ∧ w'.cell? ⟨w.heap.size + 1 + 1, 5, none⟩ = some (.int .i64 0) ∧ w'.cell? ⟨w.heap.size + 1 + 1, 6, none⟩ = some (.int .i64 0) ∧ w'.cell? ⟨w.heap.size + 1 + 1, 7, none⟩ = some (.int .i64 0) ∧ w'.cell? ⟨w.heap.size + 1 + 1, 8, none⟩ = some (.int .i64 0) ∧ w'.cell? ⟨w.heap.size + 1 + 1, 9, none⟩ = some (.int .i64 0) ∧ w'.cell? ⟨w.heap.size + 1 + 1, 10, none⟩ = some (.int .i64 0) ∧ w'.cell? ⟨w.heap.size + 1 + 1, 11, none⟩ = some (.int .i64 0) ∧ w'.cell? ⟨w.heap.size + 1 + 1, 12, none⟩ = some (.int .i64 0) ∧ w'.cell? ⟨w.heap.size + 1 + 1, 13, none⟩ = some (.int .i64 0) ∧ w'.cell? ⟨w.heap.size + 1 + 1, 14, none⟩ = some (.int .i64 0)) (go_keep) ((go_at_call 48; refine (codeOf_any n _ c lo _ (HV.out.1.below (K.out.2.2.drew.mono (by omega))) (HV.out.2.below K.out.2.2.drew)).mono ?_; rintro e w5 ⟨rfl, b5⟩; have re := (bcell b5).1; have fe := (bcell b5).2))
  have HB5 := hide b5
  clear q0 r0 q1 r1 q2 r2 q3 r3 q4 r4 q5 r5 q6 r6 q7 r7 q8 r8 q9 r9 q10 r10 q11 r11 q12 r12 q13 r13 q14 r14 re fe hfz b5
  have kb5 : Blk w5 (w.heap.size + 1) (cellsI noRoot) 36 := Blk.below (w := W.drew) K.out.1 HB5.out (by show _ < W.heap.size; omega)
  have HF := hide (And.intro (Blk.cells noRoot 0 kb5 (by decide)) (below_cells (b := w.heap.size + 1) (by omega) (noRoot.map (Value.int .i64)) 0 (K.out.2.2.trans ((((Below.refl _ W).drew).trans HB5.out).mono (by show w.heap.size ≤ W.heap.size; omega)))))
  clear kb5
  go_wp2
  refine bodyPost_ret (v := .tuple #[.agg (cellsI noRoot), .int .i64 c]) ?_ rfl ⟨rfl, HF.out.2⟩
  exact results_row_tmp rfl _ _ (w.heap.size + 1) 36 (cellsI noRoot) (0, 0) _ _ rfl rfl HF.out.1 Tryd.underlying36 rfl info15
end Go.Proofs.YtojbohdabnbpfaaDoor
