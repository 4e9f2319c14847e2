/- Two roots that are the same, compared by the laws' own eqRoot. Two inodes that are the same, compared by the laws' own eqInode. -/
import Derived.Test.YtlgafpjmifacmaaDoorZt04
namespace Go.Proofs.YtlgafpjmifacmaaDoor
set_option linter.unusedVariables false
set_option linter.unusedSimpArgs false
open Go.RowKit

set_option maxRecDepth 100000 in
set_option maxHeartbeats 1000000 in
theorem eqIntA12_same (ds : List Int) (w : World) (hd : ds.length = 12) :
    Calls Tryd.prog 81 #[.agg (cellsI ds), .agg (cellsI ds)] w fun e w' => e = .returned (.bool true) ∧ Below w.heap.size w w' := by
  have HD := hide hd
  clear hd
  go_enter Tryd.func81, Tryd.ntmps81
  go_wp2
  go_loopw [5] (fun i wr => ∃ k : Nat, k ≤ 12 ∧ i = .int .i64 k ∧ Blk wr w.heap.size (cellsI ds) 40 ∧ Blk wr (w.heap.size + 1) (cellsI ds) 40 ∧ Below w.heap.size w wr) (fun i _ => 12 - (intOf i).toNat)
  case atStart =>
    refine ⟨0, by omega, rfl, (Blk.new w _ _).alloc _, ?_, ((Below.refl _ _).alloc (Nat.le_refl _) _).alloc (by simp) _⟩
    have h := Blk.new (w.alloc (.cells (cellsI ds) 40)) (cellsI ds) 40
    rw [World.size_alloc] at h
    exact h
  case round =>
    obtain ⟨k, hk, rfl, h1, h2, hb⟩ := hrel
    by_cases hlt : k < 12
    · have c1 := h1.cell k
      rw [cellsI_get ds k (by rw [HD.out]; exact hlt)] at c1
      have c2 := h2.cell k
      rw [cellsI_get ds k (by rw [HD.out]; exact hlt)] at c2
      generalize ds.getD k 0 = z at c1 c2
      have HW := hide (And.intro h1 (And.intro h2 hb))
      clear h1 h2 hb
      go_wp2
      go_region
      go_wp2
      go_roundw
      case rel => exact ⟨k + 1, by omega, by go_num, HW.out.1, HW.out.2.1, HW.out.2.2.drew⟩
      case measure => simp [intOf]; omega
    · have hk12 : k = 12 := by omega
      subst hk12
      have HB := hide hb
      clear h1 h2 hb
      go_wp2
      go_ret
      exact ⟨rfl, HB.out⟩

set_option maxRecDepth 100000 in
set_option maxHeartbeats 1000000 in
theorem eqRoot_same (s : Int) (ds : List Int) (p q : Int) (w : World) (hd : ds.length = 12) :
    Calls Tryd.prog 53 #[.agg (cellsI (rootI s ds p q)), .agg (cellsI (rootI s ds p q))] w fun e w' => e = .returned (.bool true) ∧ Below w.heap.size w w' := by
  have HD := hide hd
  have k0 : Blk ((w.alloc (.cells (cellsI (rootI s ds p q)) 42)).alloc (.cells (cellsI (rootI s ds p q)) 42)) w.heap.size (cellsI (rootI s ds p q)) 42 := (Blk.new w _ _).alloc _
  have k1 : Blk ((w.alloc (.cells (cellsI (rootI s ds p q)) 42)).alloc (.cells (cellsI (rootI s ds p q)) 42)) (w.heap.size + 1) (cellsI (rootI s ds p q)) 42 := by
    have h := Blk.new (w.alloc (.cells (cellsI (rootI s ds p q)) 42)) (cellsI (rootI s ds p q)) 42
    rw [World.size_alloc] at h
    exact h
  have hb : Below w.heap.size w ((w.alloc (.cells (cellsI (rootI s ds p q)) 42)).alloc (.cells (cellsI (rootI s ds p q)) 42)) := ((Below.refl _ _).alloc (Nat.le_refl _) _).alloc (by simp) _
  have K := hide (And.intro k0 (And.intro k1 hb))
  have a0 : ((w.alloc (.cells (cellsI (rootI s ds p q)) 42)).alloc (.cells (cellsI (rootI s ds p q)) 42)).cell? ⟨w.heap.size, 0, none⟩ = some (.int .i64 s) := k0.cell 0
  have b0 : ((w.alloc (.cells (cellsI (rootI s ds p q)) 42)).alloc (.cells (cellsI (rootI s ds p q)) 42)).cell? ⟨w.heap.size + 1, 0, none⟩ = some (.int .i64 s) := k1.cell 0
  clear hd k0 k1 hb
  go_enter Tryd.func53, Tryd.ntmps53
  go_wp2_with (first
    | (refine wpList_load_mid rfl 40 _ rfl w.heap.size 1 rfl (ds.map (Value.int .i64)) _ (by have h := K.out.1.range 1 12 (by rw [rootI_len _ _ _ _ HD.out]; omega); rw [root_range _ _ _ _ HD.out] at h; exact h) Tryd.underlying40 rfl (by rw [List.length_map, HD.out]; exact info12) ?_)
    | (refine wpList_load_mid rfl 40 _ rfl (w.heap.size + 1) 1 rfl (ds.map (Value.int .i64)) _ (by have h := K.out.2.1.range 1 12 (by rw [rootI_len _ _ _ _ HD.out]; omega); rw [root_range _ _ _ _ HD.out] at h; exact h) Tryd.underlying40 rfl (by rw [List.length_map, HD.out]; exact info12) ?_)
    | (go_at_call 81; fail))
  refine (eqIntA12_same ds _ HD.out).mono ?_
  rintro e w1 ⟨rfl, b1⟩
  have hs1 := b1.size
  rw [World.size_alloc, World.size_alloc] at hs1
  have q0 := K.out.1.below b1 (by simp; omega)
  have q1 := K.out.2.1.below b1 (by simp)
  have a13 := (q0.cell 13).trans (rootI_get13 s ds p q HD.out)
  have a14 := (q0.cell 14).trans (rootI_get14 s ds p q HD.out)
  have b13 := (q1.cell 13).trans (rootI_get13 s ds p q HD.out)
  have b14 := (q1.cell 14).trans (rootI_get14 s ds p q HD.out)
  have B1 := hide (K.out.2.2.trans (b1.mono K.out.2.2.size))
  clear b1 q0 q1 a0 b0 hs1
  go_wp2
  go_ret
  exact ⟨rfl, B1.out⟩
end Go.Proofs.YtlgafpjmifacmaaDoor

namespace Go.Proofs.YtlgafpjmifacmaaDoor
set_option linter.unusedVariables false
set_option linter.unusedSimpArgs false
open Go.RowKit

set_option maxRecDepth 100000 in
set_option maxHeartbeats 1000000 in
theorem eqInode_same (k0 k1 k2 k3 k4 k5 k6 k7 k8 s : Int) (ds : List Int) (p q : Int) (w : World) (hd : ds.length = 12) :
    Calls Tryd.prog 31 #[.agg (cellsI (inoI [k0, k1, k2, k3, k4, k5, k6, k7, k8] s ds p q)), .agg (cellsI (inoI [k0, k1, k2, k3, k4, k5, k6, k7, k8] s ds p q))] w fun e w' => e = .returned (.bool true) ∧ Below w.heap.size w w' := by
  have HD := hide hd
  have HLen := hide (show (cellsI (rootI s ds p q)).size = 15 from by rw [cellsI_size]; exact rootI_len s ds p q HD.out)
  have ka : Blk ((w.alloc (.cells (cellsI (inoI [k0, k1, k2, k3, k4, k5, k6, k7, k8] s ds p q)) 44)).alloc (.cells (cellsI (inoI [k0, k1, k2, k3, k4, k5, k6, k7, k8] s ds p q)) 44)) w.heap.size (cellsI (inoI [k0, k1, k2, k3, k4, k5, k6, k7, k8] s ds p q)) 44 := (Blk.new w _ _).alloc _
  have kb : Blk ((w.alloc (.cells (cellsI (inoI [k0, k1, k2, k3, k4, k5, k6, k7, k8] s ds p q)) 44)).alloc (.cells (cellsI (inoI [k0, k1, k2, k3, k4, k5, k6, k7, k8] s ds p q)) 44)) (w.heap.size + 1) (cellsI (inoI [k0, k1, k2, k3, k4, k5, k6, k7, k8] s ds p q)) 44 := by
    have h := Blk.new (w.alloc (.cells (cellsI (inoI [k0, k1, k2, k3, k4, k5, k6, k7, k8] s ds p q)) 44)) (cellsI (inoI [k0, k1, k2, k3, k4, k5, k6, k7, k8] s ds p q)) 44
    rw [World.size_alloc] at h
    exact h
  have hb : Below w.heap.size w ((w.alloc (.cells (cellsI (inoI [k0, k1, k2, k3, k4, k5, k6, k7, k8] s ds p q)) 44)).alloc (.cells (cellsI (inoI [k0, k1, k2, k3, k4, k5, k6, k7, k8] s ds p q)) 44)) := ((Below.refl _ _).alloc (Nat.le_refl _) _).alloc (by simp) _
  have KK := hide (And.intro ka (And.intro kb hb))
  have a0 : ((w.alloc (.cells (cellsI (inoI [k0, k1, k2, k3, k4, k5, k6, k7, k8] s ds p q)) 44)).alloc (.cells (cellsI (inoI [k0, k1, k2, k3, k4, k5, k6, k7, k8] s ds p q)) 44)).cell? ⟨w.heap.size, 0, none⟩ = some (.int .i64 k0) := (ka.cell 0).trans rfl
  have bb0 : ((w.alloc (.cells (cellsI (inoI [k0, k1, k2, k3, k4, k5, k6, k7, k8] s ds p q)) 44)).alloc (.cells (cellsI (inoI [k0, k1, k2, k3, k4, k5, k6, k7, k8] s ds p q)) 44)).cell? ⟨w.heap.size + 1, 0, none⟩ = some (.int .i64 k0) := (kb.cell 0).trans rfl
  have a1 : ((w.alloc (.cells (cellsI (inoI [k0, k1, k2, k3, k4, k5, k6, k7, k8] s ds p q)) 44)).alloc (.cells (cellsI (inoI [k0, k1, k2, k3, k4, k5, k6, k7, k8] s ds p q)) 44)).cell? ⟨w.heap.size, 1, none⟩ = some (.int .i64 k1) := (ka.cell 1).trans rfl
  have bb1 : ((w.alloc (.cells (cellsI (inoI [k0, k1, k2, k3, k4, k5, k6, k7, k8] s ds p q)) 44)).alloc (.cells (cellsI (inoI [k0, k1, k2, k3, k4, k5, k6, k7, k8] s ds p q)) 44)).cell? ⟨w.heap.size + 1, 1, none⟩ = some (.int .i64 k1) := (kb.cell 1).trans rfl
  have a2 : ((w.alloc (.cells (cellsI (inoI [k0, k1, k2, k3, k4, k5, k6, k7, k8] s ds p q)) 44)).alloc (.cells (cellsI (inoI [k0, k1, k2, k3, k4, k5, k6, k7, k8] s ds p q)) 44)).cell? ⟨w.heap.size, 2, none⟩ = some (.int .i64 k2) := (ka.cell 2).trans rfl
  have bb2 : ((w.alloc (.cells (cellsI (inoI [k0, k1, k2, k3, k4, k5, k6, k7, k8] s ds p q)) 44)).alloc (.cells (cellsI (inoI [k0, k1, k2, k3, k4, k5, k6, k7, k8] s ds p q)) 44)).cell? ⟨w.heap.size + 1, 2, none⟩ = some (.int .i64 k2) := (kb.cell 2).trans rfl
  have a3 : ((w.alloc (.cells (cellsI (inoI [k0, k1, k2, k3, k4, k5, k6, k7, k8] s ds p q)) 44)).alloc (.cells (cellsI (inoI [k0, k1, k2, k3, k4, k5, k6, k7, k8] s ds p q)) 44)).cell? ⟨w.heap.size, 3, none⟩ = some (.int .i64 k3) := (ka.cell 3).trans rfl
  have bb3 : ((w.alloc (.cells (cellsI (inoI [k0, k1, k2, k3, k4, k5, k6, k7, k8] s ds p q)) 44)).alloc (.cells (cellsI (inoI [k0, k1, k2, k3, k4, k5, k6, k7, k8] s ds p q)) 44)).cell? ⟨w.heap.size + 1, 3, none⟩ = some (.int .i64 k3) := (kb.cell 3).trans rfl
  have a4 : ((w.alloc (.cells (cellsI (inoI [k0, k1, k2, k3, k4, k5, k6, k7, k8] s ds p q)) 44)).alloc (.cells (cellsI (inoI [k0, k1, k2, k3, k4, k5, k6, k7, k8] s ds p q)) 44)).cell? ⟨w.heap.size, 4, none⟩ = some (.int .i64 k4) := (ka.cell 4).trans rfl
  have bb4 : ((w.alloc (.cells (cellsI (inoI [k0, k1, k2, k3, k4, k5, k6, k7, k8] s ds p q)) 44)).alloc (.cells (cellsI (inoI [k0, k1, k2, k3, k4, k5, k6, k7, k8] s ds p q)) 44)).cell? ⟨w.heap.size + 1, 4, none⟩ = some (.int .i64 k4) := (kb.cell 4).trans rfl
  have a5 : ((w.alloc (.cells (cellsI (inoI [k0, k1, k2, k3, k4, k5, k6, k7, k8] s ds p q)) 44)).alloc (.cells (cellsI (inoI [k0, k1, k2, k3, k4, k5, k6, k7, k8] s ds p q)) 44)).cell? ⟨w.heap.size, 5, none⟩ = some (.int .i64 k5) := (ka.cell 5).trans rfl
  have bb5 : ((w.alloc (.cells (cellsI (inoI [k0, k1, k2, k3, k4, k5, k6, k7, k8] s ds p q)) 44)).alloc (.cells (cellsI (inoI [k0, k1, k2, k3, k4, k5, k6, k7, k8] s ds p q)) 44)).cell? ⟨w.heap.size + 1, 5, none⟩ = some (.int .i64 k5) := (kb.cell 5).trans rfl
  have a6 : ((w.alloc (.cells (cellsI (inoI [k0, k1, k2, k3, k4, k5, k6, k7, k8] s ds p q)) 44)).alloc (.cells (cellsI (inoI [k0, k1, k2, k3, k4, k5, k6, k7, k8] s ds p q)) 44)).cell? ⟨w.heap.size, 6, none⟩ = some (.int .i64 k6) := (ka.cell 6).trans rfl
  have bb6 : ((w.alloc (.cells (cellsI (inoI [k0, k1, k2, k3, k4, k5, k6, k7, k8] s ds p q)) 44)).alloc (.cells (cellsI (inoI [k0, k1, k2, k3, k4, k5, k6, k7, k8] s ds p q)) 44)).cell? ⟨w.heap.size + 1, 6, none⟩ = some (.int .i64 k6) := (kb.cell 6).trans rfl
  have a7 : ((w.alloc (.cells (cellsI (inoI [k0, k1, k2, k3, k4, k5, k6, k7, k8] s ds p q)) 44)).alloc (.cells (cellsI (inoI [k0, k1, k2, k3, k4, k5, k6, k7, k8] s ds p q)) 44)).cell? ⟨w.heap.size, 7, none⟩ = some (.int .i64 k7) := (ka.cell 7).trans rfl
  have bb7 : ((w.alloc (.cells (cellsI (inoI [k0, k1, k2, k3, k4, k5, k6, k7, k8] s ds p q)) 44)).alloc (.cells (cellsI (inoI [k0, k1, k2, k3, k4, k5, k6, k7, k8] s ds p q)) 44)).cell? ⟨w.heap.size + 1, 7, none⟩ = some (.int .i64 k7) := (kb.cell 7).trans rfl
  have a8 : ((w.alloc (.cells (cellsI (inoI [k0, k1, k2, k3, k4, k5, k6, k7, k8] s ds p q)) 44)).alloc (.cells (cellsI (inoI [k0, k1, k2, k3, k4, k5, k6, k7, k8] s ds p q)) 44)).cell? ⟨w.heap.size, 8, none⟩ = some (.int .i64 k8) := (ka.cell 8).trans rfl
  have bb8 : ((w.alloc (.cells (cellsI (inoI [k0, k1, k2, k3, k4, k5, k6, k7, k8] s ds p q)) 44)).alloc (.cells (cellsI (inoI [k0, k1, k2, k3, k4, k5, k6, k7, k8] s ds p q)) 44)).cell? ⟨w.heap.size + 1, 8, none⟩ = some (.int .i64 k8) := (kb.cell 8).trans rfl
  clear hd ka kb hb
  go_enter Tryd.func31, Tryd.ntmps31
  go_wp2_with (first
    | (refine wpList_load_mid rfl 42 _ rfl w.heap.size 9 rfl ((rootI s ds p q).map (Value.int .i64)) _ (ino_range k0 k1 k2 k3 k4 k5 k6 k7 k8 s ds p q HD.out KK.out.1) Tryd.underlying42 rfl (by rw [List.length_map, ← cellsI_size, HLen.out]; exact info15) ?_)
    | (refine wpList_load_mid rfl 42 _ rfl (w.heap.size + 1) 9 rfl ((rootI s ds p q).map (Value.int .i64)) _ (ino_range k0 k1 k2 k3 k4 k5 k6 k7 k8 s ds p q HD.out KK.out.2.1) Tryd.underlying42 rfl (by rw [List.length_map, ← cellsI_size, HLen.out]; exact info15) ?_)
    | (go_at_call 53; fail))
  refine (eqRoot_same s ds p q _ HD.out).mono ?_
  rintro e w1 ⟨rfl, b1⟩
  have B1 := hide (KK.out.2.2.trans (b1.mono KK.out.2.2.size))
  clear b1 a0 bb0 a1 bb1 a2 bb2 a3 bb3 a4 bb4 a5 bb5 a6 bb6 a7 bb7 a8 bb8
  go_wp2
  go_ret
  exact ⟨rfl, B1.out⟩
end Go.Proofs.YtlgafpjmifacmaaDoor
