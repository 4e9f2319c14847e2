/- Two roots that are the same, compared by the laws' own eqRoot. -/
import Derived.Test.YtlpapoplnacobaaDoorRootB
namespace Go.Proofs.YtlpapoplnacobaaDoor
set_option linter.unusedVariables false
set_option linter.unusedSimpArgs false
open Go.RowKit

set_option maxRecDepth 100000 in
set_option maxHeartbeats 1000000 in
theorem eqIntA12_same (ds : List Int) (w : World) (hd : ds.length = 12) :
    Calls Tryd.prog 81 #[.agg (cellsI ds), .agg (cellsI ds)] w fun e w' => e = .returned (.bool true) ∧ Below w.heap.size w w' := by
  have HD := hide hd
  clear hd
  go_enter Tryd.func81, Tryd.ntmps81
  go_wp2
  go_loopw [5] (fun i wr => ∃ k : Nat, k ≤ 12 ∧ i = .int .i64 k ∧ Blk wr w.heap.size (cellsI ds) 40 ∧ Blk wr (w.heap.size + 1) (cellsI ds) 40 ∧ Below w.heap.size w wr) (fun i _ => 12 - (intOf i).toNat)
  case atStart =>
    refine ⟨0, by omega, rfl, (Blk.new w _ _).alloc _, ?_, ((Below.refl _ _).alloc (Nat.le_refl _) _).alloc (by simp) _⟩
    have h := Blk.new (w.alloc (.cells (cellsI ds) 40)) (cellsI ds) 40
    rw [World.size_alloc] at h
    exact h
  case round =>
    obtain ⟨k, hk, rfl, h1, h2, hb⟩ := hrel
    by_cases hlt : k < 12
    · have c1 := h1.cell k
      rw [cellsI_get ds k (by rw [HD.out]; exact hlt)] at c1
      have c2 := h2.cell k
      rw [cellsI_get ds k (by rw [HD.out]; exact hlt)] at c2
      generalize ds.getD k 0 = z at c1 c2
      have HW := hide (And.intro h1 (And.intro h2 hb))
      clear h1 h2 hb
      go_wp2
      go_region
      go_wp2
      go_roundw
      case rel => exact ⟨k + 1, by omega, by go_num, HW.out.1, HW.out.2.1, HW.out.2.2.drew⟩
      case measure => simp [intOf]; omega
    · have hk12 : k = 12 := by omega
      subst hk12
      have HB := hide hb
      clear h1 h2 hb
      go_wp2
      go_ret
      exact ⟨rfl, HB.out⟩

set_option maxRecDepth 100000 in
set_option maxHeartbeats 1000000 in
theorem eqRoot_same (s : Int) (ds : List Int) (p q : Int) (w : World) (hd : ds.length = 12) :
    Calls Tryd.prog 53 #[.agg (cellsI (rootI s ds p q)), .agg (cellsI (rootI s ds p q))] w fun e w' => e = .returned (.bool true) ∧ Below w.heap.size w w' := by
  have HD := hide hd
  have k0 : Blk ((w.alloc (.cells (cellsI (rootI s ds p q)) 42)).alloc (.cells (cellsI (rootI s ds p q)) 42)) w.heap.size (cellsI (rootI s ds p q)) 42 := (Blk.new w _ _).alloc _
  have k1 : Blk ((w.alloc (.cells (cellsI (rootI s ds p q)) 42)).alloc (.cells (cellsI (rootI s ds p q)) 42)) (w.heap.size + 1) (cellsI (rootI s ds p q)) 42 := by
    have h := Blk.new (w.alloc (.cells (cellsI (rootI s ds p q)) 42)) (cellsI (rootI s ds p q)) 42
    rw [World.size_alloc] at h
    exact h
  have hb : Below w.heap.size w ((w.alloc (.cells (cellsI (rootI s ds p q)) 42)).alloc (.cells (cellsI (rootI s ds p q)) 42)) := ((Below.refl _ _).alloc (Nat.le_refl _) _).alloc (by simp) _
  have K := hide (And.intro k0 (And.intro k1 hb))
  have a0 : ((w.alloc (.cells (cellsI (rootI s ds p q)) 42)).alloc (.cells (cellsI (rootI s ds p q)) 42)).cell? ⟨w.heap.size, 0, none⟩ = some (.int .i64 s) := k0.cell 0
  have b0 : ((w.alloc (.cells (cellsI (rootI s ds p q)) 42)).alloc (.cells (cellsI (rootI s ds p q)) 42)).cell? ⟨w.heap.size + 1, 0, none⟩ = some (.int .i64 s) := k1.cell 0
  clear hd k0 k1 hb
  go_enter Tryd.func53, Tryd.ntmps53
  go_wp2_with (first
    | (refine wpList_load_mid rfl 40 _ rfl w.heap.size 1 rfl (ds.map (Value.int .i64)) _ (by have h := K.out.1.range 1 12 (by rw [rootI_len _ _ _ _ HD.out]; omega); rw [root_range _ _ _ _ HD.out] at h; exact h) Tryd.underlying40 rfl (by rw [List.length_map, HD.out]; exact info12) ?_)
    | (refine wpList_load_mid rfl 40 _ rfl (w.heap.size + 1) 1 rfl (ds.map (Value.int .i64)) _ (by have h := K.out.2.1.range 1 12 (by rw [rootI_len _ _ _ _ HD.out]; omega); rw [root_range _ _ _ _ HD.out] at h; exact h) Tryd.underlying40 rfl (by rw [List.length_map, HD.out]; exact info12) ?_)
    | (go_at_call 81; fail))
  refine (eqIntA12_same ds _ HD.out).mono ?_
  rintro e w1 ⟨rfl, b1⟩
  have hs1 := b1.size
  rw [World.size_alloc, World.size_alloc] at hs1
  have q0 := K.out.1.below b1 (by simp; omega)
  have q1 := K.out.2.1.below b1 (by simp)
  have a13 := (q0.cell 13).trans (rootI_get13 s ds p q HD.out)
  have a14 := (q0.cell 14).trans (rootI_get14 s ds p q HD.out)
  have b13 := (q1.cell 13).trans (rootI_get13 s ds p q HD.out)
  have b14 := (q1.cell 14).trans (rootI_get14 s ds p q HD.out)
  have B1 := hide (K.out.2.2.trans (b1.mono K.out.2.2.size))
  clear b1 q0 q1 a0 b0 hs1
  go_wp2
  go_ret
  exact ⟨rfl, B1.out⟩
end Go.Proofs.YtlpapoplnacobaaDoor
