/- A copy of an inode: toInode. -/
import Derived.Test.YtlpapoplnacobaaDoorInoA
namespace Go.Proofs.YtlpapoplnacobaaDoor
set_option linter.unusedVariables false
set_option linter.unusedSimpArgs false
open Go.RowKit

theorem over_ino (k0 k1 k2 k3 k4 k5 k6 k7 k8 s : Int) (ds : List Int) (p q : Int) (hd : ds.length = 12) : over ([k0, k1, k2, k3, k4, k5, k6, k7, k8] ++ List.replicate 15 0) 9 (rootI s ds p q) = inoI [k0, k1, k2, k3, k4, k5, k6, k7, k8] s ds p q := by
  have hl := rootI_len s ds p q hd
  unfold over inoI
  rw [hl]
  simp

set_option maxRecDepth 100000 in
set_option maxHeartbeats 2000000 in
theorem toInode_any (k0 k1 k2 k3 k4 k5 k6 k7 k8 s : Int) (ds : List Int) (p q : Int) (w : World) (hd : ds.length = 12) :
    Calls Tryd.prog 26 #[.agg (cellsI (inoI [k0, k1, k2, k3, k4, k5, k6, k7, k8] s ds p q))] w fun e w' => e = .returned (.agg (cellsI (inoI [k0, k1, k2, k3, k4, k5, k6, k7, k8] s ds p q))) ∧ Below w.heap.size w w' := by
  have HD := hide hd
  have HLen := hide (show (cellsI (rootI s ds p q)).size = 15 from by rw [cellsI_size]; exact rootI_len s ds p q HD.out)
  have HZ := hide (show (cellsI (inoI [k0, k1, k2, k3, k4, k5, k6, k7, k8] s ds p q)).size = 24 from by rw [cellsI_size]; exact inoI_len _ _ _ _ _ rfl HD.out)
  have c0 : ∀ o1 o2, (((w.alloc (.cells (cellsI (inoI [k0, k1, k2, k3, k4, k5, k6, k7, k8] s ds p q)) 50)).alloc o1).alloc o2).cell? ⟨w.heap.size, 0, none⟩ = some (.int .i64 k0) := fun o1 o2 => by rw [(((Blk.new w _ _).alloc o1).alloc o2).cell 0]; rfl
  have c1 : ∀ o1 o2, (((w.alloc (.cells (cellsI (inoI [k0, k1, k2, k3, k4, k5, k6, k7, k8] s ds p q)) 50)).alloc o1).alloc o2).cell? ⟨w.heap.size, 1, none⟩ = some (.int .i64 k1) := fun o1 o2 => by rw [(((Blk.new w _ _).alloc o1).alloc o2).cell 1]; rfl
  have c2 : ∀ o1 o2, (((w.alloc (.cells (cellsI (inoI [k0, k1, k2, k3, k4, k5, k6, k7, k8] s ds p q)) 50)).alloc o1).alloc o2).cell? ⟨w.heap.size, 2, none⟩ = some (.int .i64 k2) := fun o1 o2 => by rw [(((Blk.new w _ _).alloc o1).alloc o2).cell 2]; rfl
  have c3 : ∀ o1 o2, (((w.alloc (.cells (cellsI (inoI [k0, k1, k2, k3, k4, k5, k6, k7, k8] s ds p q)) 50)).alloc o1).alloc o2).cell? ⟨w.heap.size, 3, none⟩ = some (.int .i64 k3) := fun o1 o2 => by rw [(((Blk.new w _ _).alloc o1).alloc o2).cell 3]; rfl
  have c4 : ∀ o1 o2, (((w.alloc (.cells (cellsI (inoI [k0, k1, k2, k3, k4, k5, k6, k7, k8] s ds p q)) 50)).alloc o1).alloc o2).cell? ⟨w.heap.size, 4, none⟩ = some (.int .i64 k4) := fun o1 o2 => by rw [(((Blk.new w _ _).alloc o1).alloc o2).cell 4]; rfl
  have c5 : ∀ o1 o2, (((w.alloc (.cells (cellsI (inoI [k0, k1, k2, k3, k4, k5, k6, k7, k8] s ds p q)) 50)).alloc o1).alloc o2).cell? ⟨w.heap.size, 5, none⟩ = some (.int .i64 k5) := fun o1 o2 => by rw [(((Blk.new w _ _).alloc o1).alloc o2).cell 5]; rfl
  have c6 : ∀ o1 o2, (((w.alloc (.cells (cellsI (inoI [k0, k1, k2, k3, k4, k5, k6, k7, k8] s ds p q)) 50)).alloc o1).alloc o2).cell? ⟨w.heap.size, 6, none⟩ = some (.int .i64 k6) := fun o1 o2 => by rw [(((Blk.new w _ _).alloc o1).alloc o2).cell 6]; rfl
  have c7 : ∀ o1 o2, (((w.alloc (.cells (cellsI (inoI [k0, k1, k2, k3, k4, k5, k6, k7, k8] s ds p q)) 50)).alloc o1).alloc o2).cell? ⟨w.heap.size, 7, none⟩ = some (.int .i64 k7) := fun o1 o2 => by rw [(((Blk.new w _ _).alloc o1).alloc o2).cell 7]; rfl
  have c8 : ∀ o1 o2, (((w.alloc (.cells (cellsI (inoI [k0, k1, k2, k3, k4, k5, k6, k7, k8] s ds p q)) 50)).alloc o1).alloc o2).cell? ⟨w.heap.size, 8, none⟩ = some (.int .i64 k8) := fun o1 o2 => by rw [(((Blk.new w _ _).alloc o1).alloc o2).cell 8]; rfl
  clear hd
  go_enter Tryd.func26, Tryd.ntmps26
  go_wp2_with (first
    | (refine wpList_load_mid rfl 48 _ rfl w.heap.size 9 rfl ((rootI s ds p q).map (Value.int .i64)) _ (ino_range k0 k1 k2 k3 k4 k5 k6 k7 k8 s ds p q HD.out (((Blk.new w (cellsI (inoI [k0, k1, k2, k3, k4, k5, k6, k7, k8] s ds p q)) 50).alloc _).alloc _)) Tryd.underlying48 rfl (by rw [List.length_map, ← cellsI_size, HLen.out]; exact infoL15) ?_)
    | (go_at_call 48; fail))
  refine (toRoot_any s ds p q _ HD.out).mono ?_
  rintro e w1 ⟨rfl, hb1⟩
  have kz : Blk w1 (w.heap.size + 1) (cellsI (List.replicate 24 0)) 44 := by
    have h := ((Blk.new (w.alloc (.cells (cellsI (inoI [k0, k1, k2, k3, k4, k5, k6, k7, k8] s ds p q)) 50)) (cellsI (List.replicate 24 0)) 44).alloc (.cells (cellsI ([k0, k1, k2, k3, k4, k5, k6, k7, k8] ++ List.replicate 15 0)) 44)).below hb1 (by simp)
    rw [World.size_alloc] at h
    exact h
  have ko : Blk w1 (w.heap.size + 1 + 1) (cellsI ([k0, k1, k2, k3, k4, k5, k6, k7, k8] ++ List.replicate 15 0)) 44 := by
    have h := (Blk.new ((w.alloc (.cells (cellsI (inoI [k0, k1, k2, k3, k4, k5, k6, k7, k8] s ds p q)) 50)).alloc (.cells (cellsI (List.replicate 24 0)) 44)) (cellsI ([k0, k1, k2, k3, k4, k5, k6, k7, k8] ++ List.replicate 15 0)) 44).below hb1 (by simp)
    rw [World.size_alloc, World.size_alloc] at h
    exact h
  have hB : Below w.heap.size w w1 := ((((Below.refl w.heap.size w).alloc (Nat.le_refl _) (.cells (cellsI (inoI [k0, k1, k2, k3, k4, k5, k6, k7, k8] s ds p q)) 50)).alloc (by simp) (.cells (cellsI (List.replicate 24 0)) 44)).alloc (by simp; omega) (.cells (cellsI ([k0, k1, k2, k3, k4, k5, k6, k7, k8] ++ List.replicate 15 0)) 44)).trans (hb1.mono (by simp; omega))
  have K := hide (And.intro kz (And.intro ko hB))
  clear kz ko hB hb1 c0 c1 c2 c3 c4 c5 c6 c7 c8
  have K2 := hide (show Blk (w1.setCells (w.heap.size + 1 + 1) 9 (cellsI (rootI s ds p q)).toList) (w.heap.size + 1) (cellsI (List.replicate 24 0)) 44 ∧ Blk (w1.setCells (w.heap.size + 1 + 1) 9 (cellsI (rootI s ds p q)).toList) (w.heap.size + 1 + 1) (cellsI (inoI [k0, k1, k2, k3, k4, k5, k6, k7, k8] s ds p q)) 44 ∧ Below w.heap.size w (w1.setCells (w.heap.size + 1 + 1) 9 (cellsI (rootI s ds p q)).toList) from
    ⟨Blk.cells_other _ 9 K.out.1 (by omega), by rw [← over_ino k0 k1 k2 k3 k4 k5 k6 k7 k8 s ds p q HD.out]; exact Blk.cells (rootI s ds p q) 9 K.out.2.1 (by rw [rootI_len s ds p q HD.out]; simp), below_cells (by omega) _ 9 K.out.2.2⟩)
  go_wp2_with (first | (refine wpList_store_mid rfl 42 _ _ rfl (w.heap.size + 1 + 1) 9 (cellsI (rootI s ds p q)) rfl rfl (K.out.2.1.there 9 _ (by rw [HLen.out, cellsI_size]; simp)) (by rw [HLen.out]; exact info15) (cellsI_one _) ?_; generalize w1.setCells (w.heap.size + 1 + 1) 9 (cellsI (rootI s ds p q)).toList = w2 at K2 ⊢) | (refine wpList_load_row rfl 44 _ rfl (w.heap.size + 1 + 1) rfl 44 (cellsI (inoI [k0, k1, k2, k3, k4, k5, k6, k7, k8] s ds p q)) (0, 0) _ K2.out.2.1 Tryd.underlying44 rfl (by rw [HZ.out]; exact info24) ?_) | (refine wpList_store_row rfl 44 _ _ rfl (w.heap.size + 1) (cellsI (inoI [k0, k1, k2, k3, k4, k5, k6, k7, k8] s ds p q)) rfl rfl 44 _ K2.out.1 (by rw [HZ.out]; exact info24) (by rw [HZ.out]; rfl) (cellsI_one _) ?_))
  refine bodyPost_ret (v := .agg (cellsI (inoI [k0, k1, k2, k3, k4, k5, k6, k7, k8] s ds p q))) ?_ rfl ⟨rfl, ?_⟩
  · exact results_cell_row rfl _ _ (w.heap.size + 1) 44 (cellsI (inoI [k0, k1, k2, k3, k4, k5, k6, k7, k8] s ds p q)) (0, 0) _ rfl (K2.out.1.row _) Tryd.underlying44 rfl (by rw [HZ.out]; exact info24)
  · exact below_setRow K2.out.2.2 (by omega) _
end Go.Proofs.YtlpapoplnacobaaDoor
