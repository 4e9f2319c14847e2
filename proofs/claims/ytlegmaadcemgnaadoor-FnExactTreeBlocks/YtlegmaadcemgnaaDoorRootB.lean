/- A copy of a root: toRoot. -/
import Derived.Test.YtlegmaadcemgnaaDoorRootA

namespace Go.Proofs.YtlegmaadcemgnaaDoor
set_option linter.unusedVariables false
set_option linter.unusedSimpArgs false
open Go.RowKit

/-- The fifteen integers of a root. -/
def rootI (s : Int) (ds : List Int) (p q : Int) : List Int := s :: (ds ++ [p, q])
theorem rootI_len (s : Int) (ds : List Int) (p q : Int) (hd : ds.length = 12) : (rootI s ds p q).length = 15 := by simp [rootI, hd]
theorem rootI_get13 (s : Int) (ds : List Int) (p q : Int) (hd : ds.length = 12) : (cellsI (rootI s ds p q))[13]? = some (.int .i64 p) := by
  rw [cellsI_get _ _ (by rw [rootI_len s ds p q hd]; omega)]
  match ds, hd with | [_, _, _, _, _, _, _, _, _, _, _, _], _ => rfl
theorem rootI_get14 (s : Int) (ds : List Int) (p q : Int) (hd : ds.length = 12) : (cellsI (rootI s ds p q))[14]? = some (.int .i64 q) := by
  rw [cellsI_get _ _ (by rw [rootI_len s ds p q hd]; omega)]
  match ds, hd with | [_, _, _, _, _, _, _, _, _, _, _, _], _ => rfl
theorem root_build (s : Int) (ds : List Int) (p q : Int) (hd : ds.length = 12) : ((over (s :: List.replicate 14 0) 1 ds).set 13 p).set 14 q = rootI s ds p q := by
  match ds, hd with | [_, _, _, _, _, _, _, _, _, _, _, _], _ => rfl
theorem root_range (s : Int) (ds : List Int) (p q : Int) (hd : ds.length = 12) : ((rootI s ds p q).drop 1).take 12 = ds := by
  match ds, hd with | [_, _, _, _, _, _, _, _, _, _, _, _], _ => rfl

theorem over_at {w2 : World} {b : Nat} {t : TypeId} (s : Int) (ds : List Int) (hd : ds.length = 12) (h : Blk w2 b (cellsI (over (s :: List.replicate 14 0) 1 ds)) t) (k : Nat) (hk : k < 15) : ∃ u, w2.cell? ⟨b, k, none⟩ = some u := by
  rw [h.cell k]
  exact ⟨_, Array.getElem?_eq_getElem (by rw [cellsI_size, over_len _ _ _ (by simp [hd])]; simpa using hk)⟩

set_option maxRecDepth 100000 in
set_option maxHeartbeats 1000000 in
theorem toRoot_any (s : Int) (ds : List Int) (p q : Int) (w : World) (hd : ds.length = 12) :
    Calls Tryd.prog 15 #[.agg (cellsI (rootI s ds p q))] w fun e w' => e = .returned (.agg (cellsI (rootI s ds p q))) ∧ Below w.heap.size w w' := by
  have HD := hide hd
  have c0 : ∀ o1 o2, (((w.alloc (.cells (cellsI (rootI s ds p q)) 43)).alloc o1).alloc o2).cell? ⟨w.heap.size, 0, none⟩ = some (.int .i64 s) := fun o1 o2 => by
    rw [(((Blk.new w _ _).alloc o1).alloc o2).cell 0]; rfl
  clear hd
  go_enter Tryd.func15, Tryd.ntmps15
  go_wp2_with (first
    | (refine wpList_load_mid rfl 32 _ rfl w.heap.size 1 rfl (ds.map (Value.int .i64)) _ (by have h := (((Blk.new w (cellsI (rootI s ds p q)) 43).alloc (.cells (cellsI (List.replicate 15 0)) 34)).alloc (.cells (cellsI (s :: List.replicate 14 0)) 34)).range 1 12 (by rw [rootI_len _ _ _ _ HD.out]; omega); rw [root_range _ _ _ _ HD.out] at h; exact h) Tryd.underlying32 rfl (by rw [List.length_map, HD.out]; exact info12) ?_)
    | (go_at_call 36; fail))
  refine (toIntA12_any ds _ HD.out).mono ?_
  rintro e w1 ⟨rfl, hb1⟩
  have k0 := (((Blk.new w (cellsI (rootI s ds p q)) 43).alloc (.cells (cellsI (List.replicate 15 0)) 34)).alloc (.cells (cellsI (s :: List.replicate 14 0)) 34)).below hb1 (by simp; omega)
  have k1 : Blk w1 (w.heap.size + 1) (cellsI (List.replicate 15 0)) 34 := by
    have h := ((Blk.new (w.alloc (.cells (cellsI (rootI s ds p q)) 43)) (cellsI (List.replicate 15 0)) 34).alloc (.cells (cellsI (s :: List.replicate 14 0)) 34)).below hb1 (by simp)
    rw [World.size_alloc] at h
    exact h
  have k2 : Blk w1 (w.heap.size + 1 + 1) (cellsI (s :: List.replicate 14 0)) 34 := by
    have h := (Blk.new ((w.alloc (.cells (cellsI (rootI s ds p q)) 43)).alloc (.cells (cellsI (List.replicate 15 0)) 34)) (cellsI (s :: List.replicate 14 0)) 34).below hb1 (by simp)
    rw [World.size_alloc, World.size_alloc] at h
    exact h
  have hB : Below w.heap.size w w1 := ((((Below.refl w.heap.size w).alloc (Nat.le_refl _) (.cells (cellsI (rootI s ds p q)) 43)).alloc (by simp) (.cells (cellsI (List.replicate 15 0)) 34)).alloc (by simp; omega) (.cells (cellsI (s :: List.replicate 14 0)) 34)).trans (hb1.mono (by simp; omega))
  have K := hide (And.intro k0 (And.intro k1 (And.intro k2 hB)))
  clear k0 k1 k2 hB hb1 c0
  have K2 := hide (show Blk (w1.setCells (w.heap.size + 1 + 1) 1 (cellsI ds).toList) w.heap.size (cellsI (rootI s ds p q)) 43 ∧ Blk (w1.setCells (w.heap.size + 1 + 1) 1 (cellsI ds).toList) (w.heap.size + 1) (cellsI (List.replicate 15 0)) 34 ∧ Blk (w1.setCells (w.heap.size + 1 + 1) 1 (cellsI ds).toList) (w.heap.size + 1 + 1) (cellsI (over (s :: List.replicate 14 0) 1 ds)) 34 ∧ Below w.heap.size w (w1.setCells (w.heap.size + 1 + 1) 1 (cellsI ds).toList) from
    ⟨Blk.cells_other _ 1 K.out.1 (by omega), Blk.cells_other _ 1 K.out.2.1 (by omega), Blk.cells ds 1 K.out.2.2.1 (by rw [HD.out]; simp), below_cells (by omega) _ 1 K.out.2.2.2⟩)
  have hz15 : (cellsI (rootI s ds p q)).size = 15 := by rw [cellsI_size]; exact rootI_len s ds p q HD.out
  have HZ := hide hz15
  clear hz15
  go_wp2_with (first | (refine wpList_store_mid rfl 32 _ _ rfl (w.heap.size + 1 + 1) 1 (cellsI ds) rfl rfl (K.out.2.2.1.there 1 _ (by rw [cellsI_size, cellsI_size, HD.out]; simp)) (by rw [cellsI_size, HD.out]; exact info12) (cellsI_one ds) ?_; generalize w1.setCells (w.heap.size + 1 + 1) 1 (cellsI ds).toList = w2 at K2 ⊢; have a13 := (K2.out.1.cell 13).trans (rootI_get13 s ds p q HD.out); have a14 := (K2.out.1.cell 14).trans (rootI_get14 s ds p q HD.out); obtain ⟨u13, b13⟩ := over_at s ds HD.out K2.out.2.2.1 13 (by omega); obtain ⟨u14, b14⟩ := over_at s ds HD.out K2.out.2.2.1 14 (by omega); have f13 := K2.out.2.2.1.frozen 13; have f14 := K2.out.2.2.1.frozen 14) | (refine wpList_load_row rfl 34 _ rfl (w.heap.size + 1 + 1) rfl 34 (cellsI (rootI s ds p q)) (0, 0) _ (by have h := (K2.out.2.2.1.set 13 (.int .i64 p)).set 14 (.int .i64 q); rw [cellsI_set, cellsI_set, root_build _ _ _ _ HD.out] at h; exact h) Tryd.underlying34 rfl (by rw [HZ.out]; exact info15) ?_) | (refine wpList_store_row rfl 34 _ _ rfl (w.heap.size + 1) (cellsI (rootI s ds p q)) rfl rfl 34 _ ((K2.out.2.1.other ⟨w.heap.size + 1 + 1, 13, none⟩ (.int .i64 p) (by show w.heap.size + 1 ≠ w.heap.size + 1 + 1; omega)).other ⟨w.heap.size + 1 + 1, 14, none⟩ (.int .i64 q) (by show w.heap.size + 1 ≠ w.heap.size + 1 + 1; omega)) (by rw [HZ.out]; exact info15) (by rw [HZ.out]; rfl) (cellsI_one _) ?_))
  have K3 := (K2.out.2.1.other ⟨w.heap.size + 1 + 1, 13, none⟩ (.int .i64 p) (by show w.heap.size + 1 ≠ w.heap.size + 1 + 1; omega)).other ⟨w.heap.size + 1 + 1, 14, none⟩ (.int .i64 q) (by show w.heap.size + 1 ≠ w.heap.size + 1 + 1; omega)
  refine bodyPost_ret (v := .agg (cellsI (rootI s ds p q))) ?_ rfl ⟨rfl, ?_⟩
  · exact results_cell_row rfl _ _ (w.heap.size + 1) 34 (cellsI (rootI s ds p q)) (0, 0) _ rfl (K3.row _) Tryd.underlying34 rfl (by rw [HZ.out]; exact info15)
  · exact below_setRow ((K2.out.2.2.2.setCell (p := ⟨w.heap.size + 1 + 1, 13, none⟩) (by show _ ≤ w.heap.size + 1 + 1; omega) _).setCell (p := ⟨w.heap.size + 1 + 1, 14, none⟩) (by show _ ≤ w.heap.size + 1 + 1; omega) _) (by omega) _
end Go.Proofs.YtlegmaadcemgnaaDoor
