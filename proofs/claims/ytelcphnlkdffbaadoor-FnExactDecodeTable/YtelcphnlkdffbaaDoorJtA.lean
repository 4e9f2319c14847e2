/- A copy of an inode: toInode. Two roots that are the same, compared by the laws' own eqRoot. Two inodes that are the same, compared by the laws' own eqInode. Slices of inodes: what they read as; a copy (toInodeS), two that are the same held against each other (eqInodeS), their size (szInodeS). -/
import Derived.Test.YtelcphnlkdffbaaDoorInoA
import Derived.Test.YtelcphnlkdffbaaDoorRootB
import Derived.Test.YtelcphnlkdffbaaDoorPure
import Derived.Deep.RegionHeld3
namespace Go.Proofs.YtelcphnlkdffbaaDoor
set_option linter.unusedVariables false
set_option linter.unusedSimpArgs false
open Go.RowKit

theorem over_ino (k0 k1 k2 k3 k4 k5 k6 k7 k8 s : Int) (ds : List Int) (p q : Int) (hd : ds.length = 12) : over ([k0, k1, k2, k3, k4, k5, k6, k7, k8] ++ List.replicate 15 0) 9 (rootI s ds p q) = inoI [k0, k1, k2, k3, k4, k5, k6, k7, k8] s ds p q := by
  have hl := rootI_len s ds p q hd
  unfold over inoI
  rw [hl]
  simp

set_option maxRecDepth 100000 in
set_option maxHeartbeats 2000000 in
theorem toInode_any (k0 k1 k2 k3 k4 k5 k6 k7 k8 s : Int) (ds : List Int) (p q : Int) (w : World) (hd : ds.length = 12) :
    Calls Tryd.prog 26 #[.agg (cellsI (inoI [k0, k1, k2, k3, k4, k5, k6, k7, k8] s ds p q))] w fun e w' => e = .returned (.agg (cellsI (inoI [k0, k1, k2, k3, k4, k5, k6, k7, k8] s ds p q))) ∧ Below w.heap.size w w' := by
  have HD := hide hd
  have HLen := hide (show (cellsI (rootI s ds p q)).size = 15 from by rw [cellsI_size]; exact rootI_len s ds p q HD.out)
  have HZ := hide (show (cellsI (inoI [k0, k1, k2, k3, k4, k5, k6, k7, k8] s ds p q)).size = 24 from by rw [cellsI_size]; exact inoI_len _ _ _ _ _ rfl HD.out)
  have c0 : ∀ o1 o2, (((w.alloc (.cells (cellsI (inoI [k0, k1, k2, k3, k4, k5, k6, k7, k8] s ds p q)) 50)).alloc o1).alloc o2).cell? ⟨w.heap.size, 0, none⟩ = some (.int .i64 k0) := fun o1 o2 => by rw [(((Blk.new w _ _).alloc o1).alloc o2).cell 0]; rfl
  have c1 : ∀ o1 o2, (((w.alloc (.cells (cellsI (inoI [k0, k1, k2, k3, k4, k5, k6, k7, k8] s ds p q)) 50)).alloc o1).alloc o2).cell? ⟨w.heap.size, 1, none⟩ = some (.int .i64 k1) := fun o1 o2 => by rw [(((Blk.new w _ _).alloc o1).alloc o2).cell 1]; rfl
  have c2 : ∀ o1 o2, (((w.alloc (.cells (cellsI (inoI [k0, k1, k2, k3, k4, k5, k6, k7, k8] s ds p q)) 50)).alloc o1).alloc o2).cell? ⟨w.heap.size, 2, none⟩ = some (.int .i64 k2) := fun o1 o2 => by rw [(((Blk.new w _ _).alloc o1).alloc o2).cell 2]; rfl
  have c3 : ∀ o1 o2, (((w.alloc (.cells (cellsI (inoI [k0, k1, k2, k3, k4, k5, k6, k7, k8] s ds p q)) 50)).alloc o1).alloc o2).cell? ⟨w.heap.size, 3, none⟩ = some (.int .i64 k3) := fun o1 o2 => by rw [(((Blk.new w _ _).alloc o1).alloc o2).cell 3]; rfl
  have c4 : ∀ o1 o2, (((w.alloc (.cells (cellsI (inoI [k0, k1, k2, k3, k4, k5, k6, k7, k8] s ds p q)) 50)).alloc o1).alloc o2).cell? ⟨w.heap.size, 4, none⟩ = some (.int .i64 k4) := fun o1 o2 => by rw [(((Blk.new w _ _).alloc o1).alloc o2).cell 4]; rfl
  have c5 : ∀ o1 o2, (((w.alloc (.cells (cellsI (inoI [k0, k1, k2, k3, k4, k5, k6, k7, k8] s ds p q)) 50)).alloc o1).alloc o2).cell? ⟨w.heap.size, 5, none⟩ = some (.int .i64 k5) := fun o1 o2 => by rw [(((Blk.new w _ _).alloc o1).alloc o2).cell 5]; rfl
  have c6 : ∀ o1 o2, (((w.alloc (.cells (cellsI (inoI [k0, k1, k2, k3, k4, k5, k6, k7, k8] s ds p q)) 50)).alloc o1).alloc o2).cell? ⟨w.heap.size, 6, none⟩ = some (.int .i64 k6) := fun o1 o2 => by rw [(((Blk.new w _ _).alloc o1).alloc o2).cell 6]; rfl
  have c7 : ∀ o1 o2, (((w.alloc (.cells (cellsI (inoI [k0, k1, k2, k3, k4, k5, k6, k7, k8] s ds p q)) 50)).alloc o1).alloc o2).cell? ⟨w.heap.size, 7, none⟩ = some (.int .i64 k7) := fun o1 o2 => by rw [(((Blk.new w _ _).alloc o1).alloc o2).cell 7]; rfl
  have c8 : ∀ o1 o2, (((w.alloc (.cells (cellsI (inoI [k0, k1, k2, k3, k4, k5, k6, k7, k8] s ds p q)) 50)).alloc o1).alloc o2).cell? ⟨w.heap.size, 8, none⟩ = some (.int .i64 k8) := fun o1 o2 => by rw [(((Blk.new w _ _).alloc o1).alloc o2).cell 8]; rfl
  clear hd
  go_enter Tryd.func26, Tryd.ntmps26
  go_wp2_with (first
    | (refine wpList_load_mid rfl 48 _ rfl w.heap.size 9 rfl ((rootI s ds p q).map (Value.int .i64)) _ (ino_range k0 k1 k2 k3 k4 k5 k6 k7 k8 s ds p q HD.out (((Blk.new w (cellsI (inoI [k0, k1, k2, k3, k4, k5, k6, k7, k8] s ds p q)) 50).alloc _).alloc _)) Tryd.underlying48 rfl (by rw [List.length_map, ← cellsI_size, HLen.out]; exact infoL15) ?_)
    | (go_at_call 48; fail))
  refine (toRoot_any s ds p q _ HD.out).mono ?_
  rintro e w1 ⟨rfl, hb1⟩
  have kz : Blk w1 (w.heap.size + 1) (cellsI (List.replicate 24 0)) 44 := by
    have h := ((Blk.new (w.alloc (.cells (cellsI (inoI [k0, k1, k2, k3, k4, k5, k6, k7, k8] s ds p q)) 50)) (cellsI (List.replicate 24 0)) 44).alloc (.cells (cellsI ([k0, k1, k2, k3, k4, k5, k6, k7, k8] ++ List.replicate 15 0)) 44)).below hb1 (by simp)
    rw [World.size_alloc] at h
    exact h
  have ko : Blk w1 (w.heap.size + 1 + 1) (cellsI ([k0, k1, k2, k3, k4, k5, k6, k7, k8] ++ List.replicate 15 0)) 44 := by
    have h := (Blk.new ((w.alloc (.cells (cellsI (inoI [k0, k1, k2, k3, k4, k5, k6, k7, k8] s ds p q)) 50)).alloc (.cells (cellsI (List.replicate 24 0)) 44)) (cellsI ([k0, k1, k2, k3, k4, k5, k6, k7, k8] ++ List.replicate 15 0)) 44).below hb1 (by simp)
    rw [World.size_alloc, World.size_alloc] at h
    exact h
  have hB : Below w.heap.size w w1 := ((((Below.refl w.heap.size w).alloc (Nat.le_refl _) (.cells (cellsI (inoI [k0, k1, k2, k3, k4, k5, k6, k7, k8] s ds p q)) 50)).alloc (by simp) (.cells (cellsI (List.replicate 24 0)) 44)).alloc (by simp; omega) (.cells (cellsI ([k0, k1, k2, k3, k4, k5, k6, k7, k8] ++ List.replicate 15 0)) 44)).trans (hb1.mono (by simp; omega))
  have K := hide (And.intro kz (And.intro ko hB))
  clear kz ko hB hb1 c0 c1 c2 c3 c4 c5 c6 c7 c8
  have K2 := hide (show Blk (w1.setCells (w.heap.size + 1 + 1) 9 (cellsI (rootI s ds p q)).toList) (w.heap.size + 1) (cellsI (List.replicate 24 0)) 44 ∧ Blk (w1.setCells (w.heap.size + 1 + 1) 9 (cellsI (rootI s ds p q)).toList) (w.heap.size + 1 + 1) (cellsI (inoI [k0, k1, k2, k3, k4, k5, k6, k7, k8] s ds p q)) 44 ∧ Below w.heap.size w (w1.setCells (w.heap.size + 1 + 1) 9 (cellsI (rootI s ds p q)).toList) from
    ⟨Blk.cells_other _ 9 K.out.1 (by omega), by rw [← over_ino k0 k1 k2 k3 k4 k5 k6 k7 k8 s ds p q HD.out]; exact Blk.cells (rootI s ds p q) 9 K.out.2.1 (by rw [rootI_len s ds p q HD.out]; simp), below_cells (by omega) _ 9 K.out.2.2⟩)
  go_wp2_with (first | (refine wpList_store_mid rfl 42 _ _ rfl (w.heap.size + 1 + 1) 9 (cellsI (rootI s ds p q)) rfl rfl (K.out.2.1.there 9 _ (by rw [HLen.out, cellsI_size]; simp)) (by rw [HLen.out]; exact info15) (cellsI_one _) ?_; generalize w1.setCells (w.heap.size + 1 + 1) 9 (cellsI (rootI s ds p q)).toList = w2 at K2 ⊢) | (refine wpList_load_row rfl 44 _ rfl (w.heap.size + 1 + 1) rfl 44 (cellsI (inoI [k0, k1, k2, k3, k4, k5, k6, k7, k8] s ds p q)) (0, 0) _ K2.out.2.1 Tryd.underlying44 rfl (by rw [HZ.out]; exact info24) ?_) | (refine wpList_store_row rfl 44 _ _ rfl (w.heap.size + 1) (cellsI (inoI [k0, k1, k2, k3, k4, k5, k6, k7, k8] s ds p q)) rfl rfl 44 _ K2.out.1 (by rw [HZ.out]; exact info24) (by rw [HZ.out]; rfl) (cellsI_one _) ?_))
  refine bodyPost_ret (v := .agg (cellsI (inoI [k0, k1, k2, k3, k4, k5, k6, k7, k8] s ds p q))) ?_ rfl ⟨rfl, ?_⟩
  · exact results_cell_row rfl _ _ (w.heap.size + 1) 44 (cellsI (inoI [k0, k1, k2, k3, k4, k5, k6, k7, k8] s ds p q)) (0, 0) _ rfl (K2.out.1.row _) Tryd.underlying44 rfl (by rw [HZ.out]; exact info24)
  · exact below_setRow K2.out.2.2 (by omega) _
end Go.Proofs.YtelcphnlkdffbaaDoor

namespace Go.Proofs.YtelcphnlkdffbaaDoor
set_option linter.unusedVariables false
set_option linter.unusedSimpArgs false
open Go.RowKit

set_option maxRecDepth 100000 in
set_option maxHeartbeats 1000000 in
theorem eqIntA12_same (ds : List Int) (w : World) (hd : ds.length = 12) :
    Calls Tryd.prog 84 #[.agg (cellsI ds), .agg (cellsI ds)] w fun e w' => e = .returned (.bool true) ∧ Below w.heap.size w w' := by
  have HD := hide hd
  clear hd
  go_enter Tryd.func84, Tryd.ntmps84
  go_wp2
  go_loopw [5] (fun i wr => ∃ k : Nat, k ≤ 12 ∧ i = .int .i64 k ∧ Blk wr w.heap.size (cellsI ds) 40 ∧ Blk wr (w.heap.size + 1) (cellsI ds) 40 ∧ Below w.heap.size w wr) (fun i _ => 12 - (intOf i).toNat)
  case atStart =>
    refine ⟨0, by omega, rfl, (Blk.new w _ _).alloc _, ?_, ((Below.refl _ _).alloc (Nat.le_refl _) _).alloc (by simp) _⟩
    have h := Blk.new (w.alloc (.cells (cellsI ds) 40)) (cellsI ds) 40
    rw [World.size_alloc] at h
    exact h
  case round =>
    obtain ⟨k, hk, rfl, h1, h2, hb⟩ := hrel
    by_cases hlt : k < 12
    · have c1 := h1.cell k
      rw [cellsI_get ds k (by rw [HD.out]; exact hlt)] at c1
      have c2 := h2.cell k
      rw [cellsI_get ds k (by rw [HD.out]; exact hlt)] at c2
      generalize ds.getD k 0 = z at c1 c2
      have HW := hide (And.intro h1 (And.intro h2 hb))
      clear h1 h2 hb
      go_wp2
      go_region
      go_wp2
      go_roundw
      case rel => exact ⟨k + 1, by omega, by go_num, HW.out.1, HW.out.2.1, HW.out.2.2.drew⟩
      case measure => simp [intOf]; omega
    · have hk12 : k = 12 := by omega
      subst hk12
      have HB := hide hb
      clear h1 h2 hb
      go_wp2
      go_ret
      exact ⟨rfl, HB.out⟩

set_option maxRecDepth 100000 in
set_option maxHeartbeats 1000000 in
theorem eqRoot_same (s : Int) (ds : List Int) (p q : Int) (w : World) (hd : ds.length = 12) :
    Calls Tryd.prog 58 #[.agg (cellsI (rootI s ds p q)), .agg (cellsI (rootI s ds p q))] w fun e w' => e = .returned (.bool true) ∧ Below w.heap.size w w' := by
  have HD := hide hd
  have k0 : Blk ((w.alloc (.cells (cellsI (rootI s ds p q)) 42)).alloc (.cells (cellsI (rootI s ds p q)) 42)) w.heap.size (cellsI (rootI s ds p q)) 42 := (Blk.new w _ _).alloc _
  have k1 : Blk ((w.alloc (.cells (cellsI (rootI s ds p q)) 42)).alloc (.cells (cellsI (rootI s ds p q)) 42)) (w.heap.size + 1) (cellsI (rootI s ds p q)) 42 := by
    have h := Blk.new (w.alloc (.cells (cellsI (rootI s ds p q)) 42)) (cellsI (rootI s ds p q)) 42
    rw [World.size_alloc] at h
    exact h
  have hb : Below w.heap.size w ((w.alloc (.cells (cellsI (rootI s ds p q)) 42)).alloc (.cells (cellsI (rootI s ds p q)) 42)) := ((Below.refl _ _).alloc (Nat.le_refl _) _).alloc (by simp) _
  have K := hide (And.intro k0 (And.intro k1 hb))
  have a0 : ((w.alloc (.cells (cellsI (rootI s ds p q)) 42)).alloc (.cells (cellsI (rootI s ds p q)) 42)).cell? ⟨w.heap.size, 0, none⟩ = some (.int .i64 s) := k0.cell 0
  have b0 : ((w.alloc (.cells (cellsI (rootI s ds p q)) 42)).alloc (.cells (cellsI (rootI s ds p q)) 42)).cell? ⟨w.heap.size + 1, 0, none⟩ = some (.int .i64 s) := k1.cell 0
  clear hd k0 k1 hb
  go_enter Tryd.func58, Tryd.ntmps58
  go_wp2_with (first
    | (refine wpList_load_mid rfl 40 _ rfl w.heap.size 1 rfl (ds.map (Value.int .i64)) _ (by have h := K.out.1.range 1 12 (by rw [rootI_len _ _ _ _ HD.out]; omega); rw [root_range _ _ _ _ HD.out] at h; exact h) Tryd.underlying40 rfl (by rw [List.length_map, HD.out]; exact info12) ?_)
    | (refine wpList_load_mid rfl 40 _ rfl (w.heap.size + 1) 1 rfl (ds.map (Value.int .i64)) _ (by have h := K.out.2.1.range 1 12 (by rw [rootI_len _ _ _ _ HD.out]; omega); rw [root_range _ _ _ _ HD.out] at h; exact h) Tryd.underlying40 rfl (by rw [List.length_map, HD.out]; exact info12) ?_)
    | (go_at_call 84; fail))
  refine (eqIntA12_same ds _ HD.out).mono ?_
  rintro e w1 ⟨rfl, b1⟩
  have hs1 := b1.size
  rw [World.size_alloc, World.size_alloc] at hs1
  have q0 := K.out.1.below b1 (by simp; omega)
  have q1 := K.out.2.1.below b1 (by simp)
  have a13 := (q0.cell 13).trans (rootI_get13 s ds p q HD.out)
  have a14 := (q0.cell 14).trans (rootI_get14 s ds p q HD.out)
  have b13 := (q1.cell 13).trans (rootI_get13 s ds p q HD.out)
  have b14 := (q1.cell 14).trans (rootI_get14 s ds p q HD.out)
  have B1 := hide (K.out.2.2.trans (b1.mono K.out.2.2.size))
  clear b1 q0 q1 a0 b0 hs1
  go_wp2
  go_ret
  exact ⟨rfl, B1.out⟩
end Go.Proofs.YtelcphnlkdffbaaDoor

namespace Go.Proofs.YtelcphnlkdffbaaDoor
set_option linter.unusedVariables false
set_option linter.unusedSimpArgs false
open Go.RowKit

set_option maxRecDepth 100000 in
set_option maxHeartbeats 1000000 in
theorem eqInode_same (k0 k1 k2 k3 k4 k5 k6 k7 k8 s : Int) (ds : List Int) (p q : Int) (w : World) (hd : ds.length = 12) :
    Calls Tryd.prog 31 #[.agg (cellsI (inoI [k0, k1, k2, k3, k4, k5, k6, k7, k8] s ds p q)), .agg (cellsI (inoI [k0, k1, k2, k3, k4, k5, k6, k7, k8] s ds p q))] w fun e w' => e = .returned (.bool true) ∧ Below w.heap.size w w' := by
  have HD := hide hd
  have HLen := hide (show (cellsI (rootI s ds p q)).size = 15 from by rw [cellsI_size]; exact rootI_len s ds p q HD.out)
  have ka : Blk ((w.alloc (.cells (cellsI (inoI [k0, k1, k2, k3, k4, k5, k6, k7, k8] s ds p q)) 44)).alloc (.cells (cellsI (inoI [k0, k1, k2, k3, k4, k5, k6, k7, k8] s ds p q)) 44)) w.heap.size (cellsI (inoI [k0, k1, k2, k3, k4, k5, k6, k7, k8] s ds p q)) 44 := (Blk.new w _ _).alloc _
  have kb : Blk ((w.alloc (.cells (cellsI (inoI [k0, k1, k2, k3, k4, k5, k6, k7, k8] s ds p q)) 44)).alloc (.cells (cellsI (inoI [k0, k1, k2, k3, k4, k5, k6, k7, k8] s ds p q)) 44)) (w.heap.size + 1) (cellsI (inoI [k0, k1, k2, k3, k4, k5, k6, k7, k8] s ds p q)) 44 := by
    have h := Blk.new (w.alloc (.cells (cellsI (inoI [k0, k1, k2, k3, k4, k5, k6, k7, k8] s ds p q)) 44)) (cellsI (inoI [k0, k1, k2, k3, k4, k5, k6, k7, k8] s ds p q)) 44
    rw [World.size_alloc] at h
    exact h
  have hb : Below w.heap.size w ((w.alloc (.cells (cellsI (inoI [k0, k1, k2, k3, k4, k5, k6, k7, k8] s ds p q)) 44)).alloc (.cells (cellsI (inoI [k0, k1, k2, k3, k4, k5, k6, k7, k8] s ds p q)) 44)) := ((Below.refl _ _).alloc (Nat.le_refl _) _).alloc (by simp) _
  have KK := hide (And.intro ka (And.intro kb hb))
  have a0 : ((w.alloc (.cells (cellsI (inoI [k0, k1, k2, k3, k4, k5, k6, k7, k8] s ds p q)) 44)).alloc (.cells (cellsI (inoI [k0, k1, k2, k3, k4, k5, k6, k7, k8] s ds p q)) 44)).cell? ⟨w.heap.size, 0, none⟩ = some (.int .i64 k0) := (ka.cell 0).trans rfl
  have bb0 : ((w.alloc (.cells (cellsI (inoI [k0, k1, k2, k3, k4, k5, k6, k7, k8] s ds p q)) 44)).alloc (.cells (cellsI (inoI [k0, k1, k2, k3, k4, k5, k6, k7, k8] s ds p q)) 44)).cell? ⟨w.heap.size + 1, 0, none⟩ = some (.int .i64 k0) := (kb.cell 0).trans rfl
  have a1 : ((w.alloc (.cells (cellsI (inoI [k0, k1, k2, k3, k4, k5, k6, k7, k8] s ds p q)) 44)).alloc (.cells (cellsI (inoI [k0, k1, k2, k3, k4, k5, k6, k7, k8] s ds p q)) 44)).cell? ⟨w.heap.size, 1, none⟩ = some (.int .i64 k1) := (ka.cell 1).trans rfl
  have bb1 : ((w.alloc (.cells (cellsI (inoI [k0, k1, k2, k3, k4, k5, k6, k7, k8] s ds p q)) 44)).alloc (.cells (cellsI (inoI [k0, k1, k2, k3, k4, k5, k6, k7, k8] s ds p q)) 44)).cell? ⟨w.heap.size + 1, 1, none⟩ = some (.int .i64 k1) := (kb.cell 1).trans rfl
  have a2 : ((w.alloc (.cells (cellsI (inoI [k0, k1, k2, k3, k4, k5, k6, k7, k8] s ds p q)) 44)).alloc (.cells (cellsI (inoI [k0, k1, k2, k3, k4, k5, k6, k7, k8] s ds p q)) 44)).cell? ⟨w.heap.size, 2, none⟩ = some (.int .i64 k2) := (ka.cell 2).trans rfl
  have bb2 : ((w.alloc (.cells (cellsI (inoI [k0, k1, k2, k3, k4, k5, k6, k7, k8] s ds p q)) 44)).alloc (.cells (cellsI (inoI [k0, k1, k2, k3, k4, k5, k6, k7, k8] s ds p q)) 44)).cell? ⟨w.heap.size + 1, 2, none⟩ = some (.int .i64 k2) := (kb.cell 2).trans rfl
  have a3 : ((w.alloc (.cells (cellsI (inoI [k0, k1, k2, k3, k4, k5, k6, k7, k8] s ds p q)) 44)).alloc (.cells (cellsI (inoI [k0, k1, k2, k3, k4, k5, k6, k7, k8] s ds p q)) 44)).cell? ⟨w.heap.size, 3, none⟩ = some (.int .i64 k3) := (ka.cell 3).trans rfl
  have bb3 : ((w.alloc (.cells (cellsI (inoI [k0, k1, k2, k3, k4, k5, k6, k7, k8] s ds p q)) 44)).alloc (.cells (cellsI (inoI [k0, k1, k2, k3, k4, k5, k6, k7, k8] s ds p q)) 44)).cell? ⟨w.heap.size + 1, 3, none⟩ = some (.int .i64 k3) := (kb.cell 3).trans rfl
  have a4 : ((w.alloc (.cells (cellsI (inoI [k0, k1, k2, k3, k4, k5, k6, k7, k8] s ds p q)) 44)).alloc (.cells (cellsI (inoI [k0, k1, k2, k3, k4, k5, k6, k7, k8] s ds p q)) 44)).cell? ⟨w.heap.size, 4, none⟩ = some (.int .i64 k4) := (ka.cell 4).trans rfl
  have bb4 : ((w.alloc (.cells (cellsI (inoI [k0, k1, k2, k3, k4, k5, k6, k7, k8] s ds p q)) 44)).alloc (.cells (cellsI (inoI [k0, k1, k2, k3, k4, k5, k6, k7, k8] s ds p q)) 44)).cell? ⟨w.heap.size + 1, 4, none⟩ = some (.int .i64 k4) := (kb.cell 4).trans rfl
  have a5 : ((w.alloc (.cells (cellsI (inoI [k0, k1, k2, k3, k4, k5, k6, k7, k8] s ds p q)) 44)).alloc (.cells (cellsI (inoI [k0, k1, k2, k3, k4, k5, k6, k7, k8] s ds p q)) 44)).cell? ⟨w.heap.size, 5, none⟩ = some (.int .i64 k5) := (ka.cell 5).trans rfl
  have bb5 : ((w.alloc (.cells (cellsI (inoI [k0, k1, k2, k3, k4, k5, k6, k7, k8] s ds p q)) 44)).alloc (.cells (cellsI (inoI [k0, k1, k2, k3, k4, k5, k6, k7, k8] s ds p q)) 44)).cell? ⟨w.heap.size + 1, 5, none⟩ = some (.int .i64 k5) := (kb.cell 5).trans rfl
  have a6 : ((w.alloc (.cells (cellsI (inoI [k0, k1, k2, k3, k4, k5, k6, k7, k8] s ds p q)) 44)).alloc (.cells (cellsI (inoI [k0, k1, k2, k3, k4, k5, k6, k7, k8] s ds p q)) 44)).cell? ⟨w.heap.size, 6, none⟩ = some (.int .i64 k6) := (ka.cell 6).trans rfl
  have bb6 : ((w.alloc (.cells (cellsI (inoI [k0, k1, k2, k3, k4, k5, k6, k7, k8] s ds p q)) 44)).alloc (.cells (cellsI (inoI [k0, k1, k2, k3, k4, k5, k6, k7, k8] s ds p q)) 44)).cell? ⟨w.heap.size + 1, 6, none⟩ = some (.int .i64 k6) := (kb.cell 6).trans rfl
  have a7 : ((w.alloc (.cells (cellsI (inoI [k0, k1, k2, k3, k4, k5, k6, k7, k8] s ds p q)) 44)).alloc (.cells (cellsI (inoI [k0, k1, k2, k3, k4, k5, k6, k7, k8] s ds p q)) 44)).cell? ⟨w.heap.size, 7, none⟩ = some (.int .i64 k7) := (ka.cell 7).trans rfl
  have bb7 : ((w.alloc (.cells (cellsI (inoI [k0, k1, k2, k3, k4, k5, k6, k7, k8] s ds p q)) 44)).alloc (.cells (cellsI (inoI [k0, k1, k2, k3, k4, k5, k6, k7, k8] s ds p q)) 44)).cell? ⟨w.heap.size + 1, 7, none⟩ = some (.int .i64 k7) := (kb.cell 7).trans rfl
  have a8 : ((w.alloc (.cells (cellsI (inoI [k0, k1, k2, k3, k4, k5, k6, k7, k8] s ds p q)) 44)).alloc (.cells (cellsI (inoI [k0, k1, k2, k3, k4, k5, k6, k7, k8] s ds p q)) 44)).cell? ⟨w.heap.size, 8, none⟩ = some (.int .i64 k8) := (ka.cell 8).trans rfl
  have bb8 : ((w.alloc (.cells (cellsI (inoI [k0, k1, k2, k3, k4, k5, k6, k7, k8] s ds p q)) 44)).alloc (.cells (cellsI (inoI [k0, k1, k2, k3, k4, k5, k6, k7, k8] s ds p q)) 44)).cell? ⟨w.heap.size + 1, 8, none⟩ = some (.int .i64 k8) := (kb.cell 8).trans rfl
  clear hd ka kb hb
  go_enter Tryd.func31, Tryd.ntmps31
  go_wp2_with (first
    | (refine wpList_load_mid rfl 42 _ rfl w.heap.size 9 rfl ((rootI s ds p q).map (Value.int .i64)) _ (ino_range k0 k1 k2 k3 k4 k5 k6 k7 k8 s ds p q HD.out KK.out.1) Tryd.underlying42 rfl (by rw [List.length_map, ← cellsI_size, HLen.out]; exact info15) ?_)
    | (refine wpList_load_mid rfl 42 _ rfl (w.heap.size + 1) 9 rfl ((rootI s ds p q).map (Value.int .i64)) _ (ino_range k0 k1 k2 k3 k4 k5 k6 k7 k8 s ds p q HD.out KK.out.2.1) Tryd.underlying42 rfl (by rw [List.length_map, ← cellsI_size, HLen.out]; exact info15) ?_)
    | (go_at_call 58; fail))
  refine (eqRoot_same s ds p q _ HD.out).mono ?_
  rintro e w1 ⟨rfl, b1⟩
  have B1 := hide (KK.out.2.2.trans (b1.mono KK.out.2.2.size))
  clear b1 a0 bb0 a1 bb1 a2 bb2 a3 bb3 a4 bb4 a5 bb5 a6 bb6 a7 bb7 a8 bb8
  go_wp2
  go_ret
  exact ⟨rfl, B1.out⟩
end Go.Proofs.YtelcphnlkdffbaaDoor

namespace Go.Proofs.YtelcphnlkdffbaaDoor
set_option linter.unusedVariables false
set_option linter.unusedSimpArgs false
open Go.RowKit

/-- The slice value v reads in w as n inodes, the integers zs, twenty-four each. -/
def RdT (w : World) (v : Value) (n : Nat) (zs : List Int) : Prop :=
  zs.length = n * 24 ∧ ∃ a cap, v = .slice a n cap ∧ (0 < n → ∃ b off, a = some ⟨b, off, none⟩ ∧ b < w.heap.size ∧ ∀ i, i < n * 24 → w.cell? ⟨b, off + i, none⟩ = some (.int .i64 (zs.getD i 0))) ∧ n ≤ cap ∧ cap ≤ maxLen
/-- The integers of inode k. -/
def rowT (zs : List Int) (k : Nat) : List Int := (zs.drop (k * 24)).take 24
theorem rowT_len (zs : List Int) (k n : Nat) (hz : zs.length = n * 24) (hk : k < n) : (rowT zs k).length = 24 := by simp [rowT]; omega
theorem rowT_get (zs : List Int) (k j : Nat) (hj : j < 24) : (rowT zs k).getD j 0 = zs.getD (k * 24 + j) 0 := by
  simp [rowT, List.getD, hj]
theorem RdT.below {w w' : World} {v : Value} {n : Nat} {zs : List Int} (h : RdT w v n zs) (hb : Below w.heap.size w w') : RdT w' v n zs := by
  obtain ⟨hz, a, cap, rfl, hc, hcap⟩ := h
  refine ⟨hz, a, cap, rfl, fun hne => ?_, hcap⟩
  obtain ⟨b, off, rfl, hlt, hcell⟩ := hc hne
  exact ⟨b, off, rfl, Nat.lt_of_lt_of_le hlt hb.size, fun i hi => (hb.cell (p := ⟨b, off + i, none⟩) hlt).trans (hcell i hi)⟩
theorem RdT.parts {w : World} {v : Value} {n : Nat} {zs : List Int} (h : RdT w v n zs) : (∃ a cap, v = .slice a n cap ∧ n < 1) ∨
    ∃ b off cap, v = .slice (some ⟨b, off, none⟩) n cap ∧ b < w.heap.size ∧ ∀ i, i < n * 24 → w.cell? ⟨b, off + i, none⟩ = some (.int .i64 (zs.getD i 0)) := by
  obtain ⟨hz, a, cap, rfl, hc, _⟩ := h
  rcases Nat.eq_zero_or_pos n with h0 | h0
  · exact .inl ⟨a, cap, rfl, by omega⟩
  · obtain ⟨b, off, rfl, hlt, hcell⟩ := hc h0
    exact .inr ⟨b, off, cap, rfl, hlt, hcell⟩
theorem RdT.len {w : World} {v : Value} {n : Nat} {zs : List Int} (h : RdT w v n zs) : n ≤ maxLen := by
  obtain ⟨_, _, cap, _, _, h1, h2⟩ := h; omega
theorem range_row {w : World} {b off n k : Nat} {zs : List Int} (hz : zs.length = n * 24) (hk : k < n) (hc : ∀ i, i < n * 24 → w.cell? ⟨b, off + i, none⟩ = some (.int .i64 (zs.getD i 0))) : w.rangeAt b (off + k * 24) ((rowT zs k).map (Value.int .i64)) := by
  intro j v hv
  have hj : j < 24 := by
    have := (List.getElem?_eq_some_iff.1 hv).1
    rw [List.length_map, rowT_len zs k n hz hk] at this
    exact this
  have e : (rowT zs k)[j]? = some (zs.getD (k * 24 + j) 0) := by
    rw [← rowT_get zs k j hj]
    simp [List.getD, show j < (rowT zs k).length by rw [rowT_len zs k n hz hk]; exact hj]
  rw [List.getElem?_map, e] at hv
  obtain rfl := Option.some.inj hv
  rw [Nat.add_assoc, hc (k * 24 + j) (by omega)]
theorem RdT.own {w : World} {base : Nat} {e : TypeId} {v : Value} {n : Nat} {zs : List Int} (h : w.ownsRow base e 24 v n (zs.map (Value.int .i64))) : RdT w v n zs := by
  have hl : zs.length = n * 24 := by have := h.1; simpa using this
  rcases h.2 with ⟨rfl, h0⟩ | ⟨g, cap, cur, rfl, hb, hg, hnc, hcm, hcs, htake⟩
  · subst h0
    exact ⟨hl, none, 0, rfl, fun h => absurd h (by omega), by simp, by simp⟩
  · refine ⟨hl, some ⟨g, 0, none⟩, cap, rfl, fun _ => ⟨g, 0, rfl, (Array.getElem?_eq_some_iff.1 hg).1, fun i hi => ?_⟩, hnc, hcm⟩
    have hc := cell_of_row w g i cur e (0, 0) hg
    rw [Nat.zero_add, hc]
    have : (cur.toList.take (n * 24))[i]? = (zs.map (Value.int .i64))[i]? := by rw [htake]
    rw [List.getElem?_take, if_pos hi] at this
    simpa [List.getD, show i < zs.length by omega] using this

theorem infoT24 : (Tryd.prog.info? 44).map (fun i => (i.zero, i.size, i.bytes)) = some (some (.agg (cellsI (List.replicate 24 0))), 24, 192) := by kernel_rfl
theorem made_zero24 (n : Nat) : (madeCells (Value.agg (cellsI (List.replicate 24 0))).cells (n * 24)).toList = (List.replicate (n * 24) (0 : Int)).map (Value.int .i64) := by
  apply List.ext_getElem?
  intro j
  have hm : j % 24 < 24 := Nat.mod_lt _ (by omega)
  have hs := cellsI_get (List.replicate 24 0) (j % 24) (by simpa using hm)
  have hv : (List.replicate 24 (0 : Int)).getD (j % 24) 0 = 0 := by
    rw [List.getD, List.getElem?_replicate, if_pos hm]; rfl
  rw [hv] at hs
  have hc : (Value.agg (cellsI (List.replicate 24 0))).cells = cellsI (List.replicate 24 0) := rfl
  rw [hc]
  by_cases hj : j < n * 24
  · rw [List.getElem?_map, List.getElem?_replicate, if_pos hj]
    have hx : (cellsI (List.replicate 24 0))[j % 24]! = .int .i64 0 := by rw [getElem!_def, hs]
    have hsz : (cellsI (List.replicate 24 0)).size = 24 := by rw [cellsI_size, List.length_replicate]
    generalize cellsI (List.replicate 24 0) = c at hx hsz
    simp [madeCells, hj, hsz, hx]
  · simp [madeCells, hj]
theorem own_blk {w : World} {base g n : Nat} {e : TypeId} {zs : List Int} (h : w.ownsRow base e 24 (.slice (some ⟨g, 0, none⟩) n n) n (zs.map (Value.int .i64))) : Blk w g (cellsI zs) e := by
  rcases h.2 with ⟨e0, _⟩ | ⟨g', cap, cur, e1, hb, hg, hnc, hcm, hcs, htake⟩
  · simp at e0
  · injection e1 with e1 e2 e3
    injection e1 with e1
    injection e1 with e4
    subst e3 e4
    have : cur = cellsI zs := by
      apply Array.ext'
      rw [List.take_of_length_le (by simp; omega)] at htake
      rw [htake]; rfl
    subst this
    exact hg
theorem blk_own {w : World} {base g n : Nat} {e : TypeId} {zs : List Int} (h : Blk w g (cellsI zs) e) (hz : zs.length = n * 24) (hb : base ≤ g) (hm : n ≤ maxLen) : w.ownsRow base e 24 (.slice (some ⟨g, 0, none⟩) n n) n (zs.map (Value.int .i64)) :=
  ⟨by simpa using hz, .inr ⟨g, n, cellsI zs, rfl, hb, h, Nat.le_refl _, hm, by rw [cellsI_size, hz], by
    rw [List.take_of_length_le (by show (cellsI zs).toList.length ≤ _; rw [Array.length_toList, cellsI_size]; omega)]; rfl⟩⟩
theorem fill_row (zs : List Int) (k n : Nat) (hz : zs.length = n * 24) (hk : k < n) : over (zs.take (k * 24) ++ List.replicate ((n - k) * 24) 0) (k * 24) (rowT zs k) = zs.take ((k + 1) * 24) ++ List.replicate ((n - (k + 1)) * 24) 0 := by
  have hl := rowT_len zs k n hz hk
  have e1 : (zs.take (k * 24)).length = k * 24 := by simp; omega
  unfold over
  rw [hl, List.take_append_of_le_length (by omega), List.take_of_length_le (by omega), List.drop_append, e1, List.drop_of_length_le (by omega), List.nil_append, List.drop_replicate]
  have e2 : zs.take ((k + 1) * 24) = zs.take (k * 24) ++ rowT zs k := by
    unfold rowT
    rw [← List.take_add]
    congr 1
    omega
  rw [e2]
  congr 2
  omega

theorem szInodeS_any (v : Value) (n : Nat) (zs : List Int) (w : World) (h : RdT w v n zs) :
    Calls Tryd.prog 6 #[v, .int .i64 1048576] w fun e w' => e = .returned (.int .i64 (if (1048576 : Int) < n then -1 else 1048576 - n)) ∧ w' = w := by
  obtain ⟨hz, a, cap, rfl, hc, hcap⟩ := h
  have hm : maxLen = 9223372036854775807 := rfl
  clear hc
  by_cases hb : (1048576 : Int) < n
  · have HR := hide (show (if (1048576 : Int) < n then (-1 : Int) else 1048576 - (n : Int)) = -1 from if_pos hb)
    rw [HR.out]
    go_enter Tryd.func6, Tryd.ntmps6
    go_wp2
    go_ret
    exact ⟨rfl, rfl⟩
  · have HR := hide (show (if (1048576 : Int) < n then (-1 : Int) else 1048576 - (n : Int)) = 1048576 - (n : Int) from if_neg hb)
    rw [HR.out]
    go_enter Tryd.func6, Tryd.ntmps6
    go_wp2
    go_ret
    exact ⟨by go_num, rfl⟩

set_option maxRecDepth 100000 in
set_option maxHeartbeats 2000000 in
theorem toInodeS_any (v : Value) (n : Nat) (zs : List Int) (w : World) (h : RdT w v n zs) (hn : n ≤ 1048576) :
    Calls Tryd.prog 8 #[v] w fun e w' => ∃ v', e = .returned v' ∧ w'.ownsRow w.heap.size 44 24 v' n (zs.map (Value.int .i64)) ∧ Below w.heap.size w w' := by
  obtain ⟨i0, hi, hz0, hz1, hz2⟩ := info_parts infoT24
  have hm := h.len
  have hz := h.1
  have hnm : n ≤ 9223372036854775807 := by omega
  rcases h.parts with ⟨a, cap, rfl, hlow⟩ | ⟨b, off, cap, rfl, hbw, hcell⟩
  all_goals
    clear h
    go_enter Tryd.func8, Tryd.ntmps8
    go_wp2_with (refine wpList_make_full _ rfl (.tmp 6) (.tmp 6) 27 rfl w.heap.size 44 i0 (.agg (cellsI (List.replicate 24 0))) 24 Tryd.underlying27 hi hz0 hz1 .i64 .i64 n n n rfl rfl rfl rfl (by rw [hz2]; omega) hm (Nat.le_refl _) ?_; intro w1 hown hgrow; rw [made_zero24] at hown)
    have hb1 : Below w.heap.size w w1 := (Below.refl _ _).grown hgrow (Nat.le_refl _) (fun k h => by cases h)
    clear hgrow
    have K1 := own_blk hown
    have hle : w.heap.size < w1.heap.size := K1.lt
    clear hown
    go_loopw [4] (fun i wr => ∃ k : Nat, k ≤ n ∧ i = .int .i64 k ∧ Blk wr w.heap.size (cellsI (zs.take (k * 24) ++ List.replicate ((n - k) * 24) 0)) 44 ∧ Below w.heap.size w wr) (fun i _ => n - (intOf i).toNat)
    case atStart => exact ⟨0, Nat.zero_le _, rfl, by simpa using K1, hb1⟩
    case round =>
      clear K1 hb1 hle
      obtain ⟨k, hk, rfl, kb, hb1⟩ := hrel
      by_cases hlt : k < n
      · first
        | omega
        | (have hr := range_row (w := wr) (b := b) (off := off) hz hlt (fun i hi => (hb1.cell (p := ⟨b, off + i, none⟩) hbw).trans (hcell i hi))
           have hf := fill_row zs k n hz hlt
           obtain ⟨k0, k1, k2, k3, k4, k5, k6, k7, k8, s, ds, p, q, hd, hrow⟩ := ino_of_list (rowT zs k) (rowT_len zs k n hz hlt)
           rw [hrow] at hr hf
           have HR := hide hr
           have HF := hide hf
           have HD := hide hd
           have HK := hide (And.intro kb hb1)
           have HL := hide (show (zs.take (k * 24) ++ List.replicate ((n - k) * 24) 0).length = n * 24 by simp; omega)
           have HZ := hide (show (cellsI (inoI [k0, k1, k2, k3, k4, k5, k6, k7, k8] s ds p q)).size = 24 from by rw [cellsI_size]; exact inoI_len _ _ _ _ _ rfl HD.out)
           clear hr hf hrow hd kb hb1 hcell
           go_wp2_with (first | (refine wpList_load_mid rfl 50 _ rfl b (off + k * 24) rfl ((inoI [k0, k1, k2, k3, k4, k5, k6, k7, k8] s ds p q).map (Value.int .i64)) _ HR.out Tryd.underlying50 rfl (by rw [List.length_map, ← cellsI_size, HZ.out]; exact infoL24) ?_) | (go_at_call 26; fail))
           refine (toInode_any k0 k1 k2 k3 k4 k5 k6 k7 k8 s ds p q _ HD.out).mono ?_
           rintro e w2 ⟨rfl, b2⟩
           have K2 := hide (HK.out.1.below b2 HK.out.1.lt)
           have B2 := hide (HK.out.2.trans (b2.mono HK.out.2.size))
           have K3 := hide (show Blk (w2.setCells w.heap.size (k * 24) (cellsI (inoI [k0, k1, k2, k3, k4, k5, k6, k7, k8] s ds p q)).toList) w.heap.size (cellsI (zs.take ((k + 1) * 24) ++ List.replicate ((n - (k + 1)) * 24) 0)) 44 ∧ Below w.heap.size w (w2.setCells w.heap.size (k * 24) (cellsI (inoI [k0, k1, k2, k3, k4, k5, k6, k7, k8] s ds p q)).toList) from
             ⟨by rw [← HF.out]; exact Blk.cells (inoI [k0, k1, k2, k3, k4, k5, k6, k7, k8] s ds p q) (k * 24) K2.out (by rw [inoI_len _ _ _ _ _ rfl HD.out, HL.out]; omega), below_cells (Nat.le_refl _) _ (k * 24) B2.out⟩)
           clear b2 HK B2
           go_wp2_with (first | (refine wpList_store_mid rfl 44 _ _ rfl w.heap.size (k * 24) (cellsI (inoI [k0, k1, k2, k3, k4, k5, k6, k7, k8] s ds p q)) rfl rfl (K2.out.there (k * 24) _ (by rw [HZ.out, cellsI_size, HL.out]; omega)) (by rw [HZ.out]; exact info24) (cellsI_one _) ?_; generalize w2.setCells w.heap.size (k * 24) (cellsI (inoI [k0, k1, k2, k3, k4, k5, k6, k7, k8] s ds p q)).toList = w3 at K3 ⊢))
           go_roundw
           case rel => exact ⟨k + 1, by omega, by go_num, K3.out.1, K3.out.2⟩
           case measure => simp [intOf]; omega)
      · have hkn : k = n := by omega
        subst hkn
        rw [List.take_of_length_le (by omega), Nat.sub_self, Nat.zero_mul, List.replicate_zero, List.append_nil] at kb
        have HB := hide (And.intro kb hb1)
        clear kb hb1
        go_wp2
        go_ret
        exact ⟨_, rfl, blk_own HB.out.1 hz (Nat.le_refl _) hm, HB.out.2⟩

set_option maxRecDepth 100000 in
set_option maxHeartbeats 2000000 in
theorem eqInodeS_same (v1 v2 : Value) (n : Nat) (zs : List Int) (w : World) (h1 : RdT w v1 n zs) (h2 : RdT w v2 n zs) :
    Calls Tryd.prog 11 #[v1, v2] w fun e w' => e = .returned (.bool true) ∧ Below w.heap.size w w' := by
  have hm := h1.len
  have hz := h1.1
  unfold maxLen at hm
  rcases h1.parts with ⟨a, cap, rfl, hlow⟩ | ⟨b, off, cap, rfl, hbw, hcell⟩
  all_goals
    rcases h2.parts with ⟨a', cap', rfl, hlow'⟩ | ⟨b', off', cap', rfl, hbw', hcell'⟩
    all_goals
      clear h1 h2
      go_enter Tryd.func11, Tryd.ntmps11
      go_wp2
      go_loopw [5] (fun i wr => ∃ k : Nat, k ≤ n ∧ i = .int .i64 k ∧ Below w.heap.size w wr) (fun i _ => n - (intOf i).toNat)
      case atStart => exact ⟨0, Nat.zero_le _, rfl, Below.refl _ _⟩
      case round =>
        obtain ⟨k, hk, rfl, hb1⟩ := hrel
        by_cases hlt : k < n
        · first
          | omega
          | (have hr := range_row (w := wr) (b := b) (off := off) hz hlt (fun i hi => (hb1.cell (p := ⟨b, off + i, none⟩) hbw).trans (hcell i hi))
             have hr' := range_row (w := wr) (b := b') (off := off') hz hlt (fun i hi => (hb1.cell (p := ⟨b', off' + i, none⟩) hbw').trans (hcell' i hi))
             obtain ⟨k0, k1, k2, k3, k4, k5, k6, k7, k8, s, ds, p, q, hd, hrow⟩ := ino_of_list (rowT zs k) (rowT_len zs k n hz hlt)
             rw [hrow] at hr hr'
             have HR := hide hr
             have HR' := hide hr'
             have HD := hide hd
             have HK := hide hb1
             have HZ := hide (show (cellsI (inoI [k0, k1, k2, k3, k4, k5, k6, k7, k8] s ds p q)).size = 24 from by rw [cellsI_size]; exact inoI_len _ _ _ _ _ rfl HD.out)
             clear hr hr' hrow hd hb1 hcell hcell'
             go_wp2_with fail
             refine wp_region_noPanic ?_
             refine wp_region_held_drew (S := fun w' => w'.rangeAt b (off + k * 24) ((inoI [k0, k1, k2, k3, k4, k5, k6, k7, k8] s ds p q).map (Value.int .i64)) ∧ w'.rangeAt b' (off' + k * 24) ((inoI [k0, k1, k2, k3, k4, k5, k6, k7, k8] s ds p q).map (Value.int .i64))) (by kernel_rfl) ⟨by simpa using HR.out, by simpa using HR'.out⟩ (fun hH => ?_)
             refine wpAnyH_take (i := 0) (oi := _) (v := .slice (some ⟨b, off, none⟩) n cap) rfl (by kernel_rfl) (by kernel_rfl) (by kernel_rfl) (fun _ _ _ h => h) (Or.inl ⟨by rfl, fun w' hw' => by go_simp⟩) hH ?_
             try simp only [Act.put, List.setIfInBounds_toArray, List.set_cons_zero, List.set_cons_succ]
             refine wpAnyH_take (i := 1) (oi := _) (v := .int .i64 k) rfl (by kernel_rfl) (by kernel_rfl) (by kernel_rfl) (fun _ _ _ h => h) (Or.inl ⟨by rfl, fun w' hw' => by go_simp⟩) hH ?_
             try simp only [Act.put, List.setIfInBounds_toArray, List.set_cons_zero, List.set_cons_succ]
             refine wpAnyH_take (i := 2) (oi := _) (v := .pointer (some ⟨b, off + k * 24, none⟩)) rfl (by kernel_rfl) (by kernel_rfl) (by kernel_rfl) (fun _ _ _ h => h) (Or.inl ⟨by rfl, fun w' hw' => by go_simp⟩) hH ?_
             try simp only [Act.put, List.setIfInBounds_toArray, List.set_cons_zero, List.set_cons_succ]
             refine wpAnyH_take (i := 3) (oi := _) (v := .agg (cellsI (inoI [k0, k1, k2, k3, k4, k5, k6, k7, k8] s ds p q))) rfl (by kernel_rfl) (by kernel_rfl) (by kernel_rfl) (fun _ _ _ h => h) (yieldsIf_load_mid (by rfl) 44 _ rfl b (off + k * 24) rfl ((inoI [k0, k1, k2, k3, k4, k5, k6, k7, k8] s ds p q).map (Value.int .i64)) _ (fun w' h => h.1) Tryd.underlying44 rfl (by rw [List.length_map, ← cellsI_size, HZ.out]; exact info24)) hH ?_
             try simp only [Act.put, List.setIfInBounds_toArray, List.set_cons_zero, List.set_cons_succ]
             refine wpAnyH_take (i := 4) (oi := _) (v := .slice (some ⟨b', off', none⟩) n cap') rfl (by kernel_rfl) (by kernel_rfl) (by kernel_rfl) (fun _ _ _ h => h) (Or.inl ⟨by rfl, fun w' hw' => by go_simp⟩) hH ?_
             try simp only [Act.put, List.setIfInBounds_toArray, List.set_cons_zero, List.set_cons_succ]
             refine wpAnyH_take (i := 5) (oi := _) (v := .int .i64 k) rfl (by kernel_rfl) (by kernel_rfl) (by kernel_rfl) (fun _ _ _ h => h) (Or.inl ⟨by rfl, fun w' hw' => by go_simp⟩) hH ?_
             try simp only [Act.put, List.setIfInBounds_toArray, List.set_cons_zero, List.set_cons_succ]
             refine wpAnyH_take (i := 6) (oi := _) (v := .pointer (some ⟨b', off' + k * 24, none⟩)) rfl (by kernel_rfl) (by kernel_rfl) (by kernel_rfl) (fun _ _ _ h => h) (Or.inl ⟨by rfl, fun w' hw' => by go_simp⟩) hH ?_
             try simp only [Act.put, List.setIfInBounds_toArray, List.set_cons_zero, List.set_cons_succ]
             refine wpAnyH_take (i := 7) (oi := _) (v := .agg (cellsI (inoI [k0, k1, k2, k3, k4, k5, k6, k7, k8] s ds p q))) rfl (by kernel_rfl) (by kernel_rfl) (by kernel_rfl) (fun _ _ _ h => h) (yieldsIf_load_mid (by rfl) 44 _ rfl b' (off' + k * 24) rfl ((inoI [k0, k1, k2, k3, k4, k5, k6, k7, k8] s ds p q).map (Value.int .i64)) _ (fun w' h => h.2) Tryd.underlying44 rfl (by rw [List.length_map, ← cellsI_size, HZ.out]; exact info24)) hH ?_
             try simp only [Act.put, List.setIfInBounds_toArray, List.set_cons_zero, List.set_cons_succ]
             refine wpAnyH_ready (rs := [8]) (by kernel_rfl) (by simp) ?_
             refine AllReadyH.cons (o := _) rfl (fun K hK => ?_) AllReadyH.nil
             go_simp
             refine (eqInode_same k0 k1 k2 k3 k4 k5 k6 k7 k8 s ds p q _ HD.out).mono ?_
             rintro e w2 ⟨rfl, b2⟩
             have b3 := ((Below.refl _ _).drew).trans b2
             have B2 := hide (HK.out.trans (b3.mono HK.out.size))
             have s2 : w2.rangeAt b (off + k * 24) ((inoI [k0, k1, k2, k3, k4, k5, k6, k7, k8] s ds p q).map (Value.int .i64)) ∧ w2.rangeAt b' (off' + k * 24) ((inoI [k0, k1, k2, k3, k4, k5, k6, k7, k8] s ds p q).map (Value.int .i64)) := ⟨fun j v hv => (b3.cell (p := ⟨b, off + k * 24 + j, none⟩) (Nat.lt_of_lt_of_le hbw HK.out.size)).trans (HR.out j v hv), fun j v hv => (b3.cell (p := ⟨b', off' + k * 24 + j, none⟩) (Nat.lt_of_lt_of_le hbw' HK.out.size)).trans (HR'.out j v hv)⟩
             refine hK.out _ _ s2 (fun hH => ?_)
             clear hK K s2 b2 b3 HK
             try simp only [Act.put, List.setIfInBounds_toArray, List.set_cons_zero, List.set_cons_succ]
             refine wpAnyH_take (i := 9) (oi := _) (v := .bool false) rfl (by kernel_rfl) (by kernel_rfl) (by kernel_rfl) (fun _ _ _ h => h) (Or.inl ⟨by rfl, fun w' hw' => by go_simp⟩) hH ?_
             try simp only [Act.put, List.setIfInBounds_toArray, List.set_cons_zero, List.set_cons_succ]
             refine wpAnyH_done (by kernel_rfl) (NoPanic.normal ?_) _
             go_wp2
             go_roundw
             case rel => exact ⟨k + 1, by omega, by go_num, B2.out⟩
             case measure => simp [intOf]; omega)
        · have HB := hide hb1
          clear hb1
          go_wp2
          go_ret
          exact ⟨rfl, HB.out⟩
end Go.Proofs.YtelcphnlkdffbaaDoor
