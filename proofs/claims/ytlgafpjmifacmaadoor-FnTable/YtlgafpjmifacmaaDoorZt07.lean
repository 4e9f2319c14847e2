/- An inode spoilt by draws. -/
import Derived.Test.YtlgafpjmifacmaaDoorZt06
namespace Go.Proofs.YtlgafpjmifacmaaDoor
set_option linter.unusedVariables false
set_option linter.unusedSimpArgs false
open Go.RowKit

set_option maxRecDepth 100000 in
set_option maxHeartbeats 4000000 in
theorem spoilI_any {w0 W : World} {b : Nat} {cv : Value} {cs : List Int} (h : Sc w0 W b cv cs) (R : List Int) (hR : R.length = 24) :
    Calls Tryd.prog 42 #[.pointer (some ⟨b, 0, none⟩), .agg (cellsI R), .int .i64 1] W fun e w' => ∃ R : List Int, R.length = 24 ∧ e = .returned (.agg (cellsI R)) ∧ Sc w0 w' b cv cs ∧ W.grownBy w' (some b) := by
  have HD := hide (Dn.start h)
  have hlt := h.src.lt
  have HL := hide hR
  clear h hR
  have HZ := hide (show (cellsI R).size = 24 from by rw [cellsI_size]; exact HL.out)
  have HA := hide (HD.out.own (show Below W.heap.size W ((W.alloc (.cells (cellsI R) 44)).alloc (.cells (cellsI (List.replicate 24 0)) 44)) from ((Below.refl _ _).alloc (Nat.le_refl _) _).alloc (by simp) _))
  have KA := hide (show Blk ((W.alloc (.cells (cellsI R) 44)).alloc (.cells (cellsI (List.replicate 24 0)) 44)) W.heap.size (cellsI R) 44 from (Blk.new W _ _).alloc _)
  have KB := hide (show Blk ((W.alloc (.cells (cellsI R) 44)).alloc (.cells (cellsI (List.replicate 24 0)) 44)) (W.heap.size + 1) (cellsI (List.replicate 24 0)) 44 from by
    have := Blk.new (W.alloc (.cells (cellsI R) 44)) (cellsI (List.replicate 24 0)) 44
    rw [World.size_alloc] at this
    exact this)
  go_enter Tryd.func42, Tryd.ntmps42
  go_wp2_with fail
  refine (HA.out.sc.One 1 (by omega) (by omega)).mono ?_
  rintro e w1 ⟨t, rfl, s1, d1⟩
  have HK := hide (show Dn w0 W w1 b cv cs ∧ Blk w1 (W.heap.size + 1) (cellsI (List.replicate 24 0)) 44 ∧ Blk w1 W.heap.size (cellsI R) 44 from
    ⟨HA.out.draw s1 d1, KB.out.drawn d1 (by omega), KA.out.drawn d1 (by omega)⟩)
  clear s1 d1 HD HA KA KB HZ
  cases t with
  | false =>
    have HZ := hide (show (cellsI R).size = 24 from by rw [cellsI_size]; exact HL.out)
    have HB := hide (HK.out.1.own (below_setRow (Below.refl W.heap.size _) (show W.heap.size ≤ W.heap.size + 1 by omega) (cellsI R)))
    go_wp2_with (first | (refine wpList_load_row rfl 44 _ rfl W.heap.size rfl 44 (cellsI R) (0, 0) _ HK.out.2.2 Tryd.underlying44 rfl (by rw [HZ.out]; exact info24) ?_) | (refine wpList_store_row rfl 44 _ _ rfl (W.heap.size + 1) (cellsI R) rfl rfl 44 _ HK.out.2.1 (by rw [HZ.out]; exact info24) (by rw [HZ.out]; rfl) (cellsI_one _) ?_) | fail)
    refine bodyPost_ret (v := .agg (cellsI R)) ?_ rfl ⟨_, HL.out, rfl, HB.out.sc, HB.out.gb⟩
    exact results_cell_row rfl _ _ (W.heap.size + 1) 44 (cellsI R) (0, 0) _ rfl (HK.out.2.1.row _) Tryd.underlying44 rfl (by rw [HZ.out]; exact info24)
  | true =>
    go_wp2_with fail
    refine (wild_any HK.out.1.sc).mono ?_
    rintro e w2 ⟨x, rfl, s2, d2⟩
    have HM := hide (And.intro (HK.out.1.draw s2 d2) (And.intro (HK.out.1.blk HK.out.2.1 d2 (by omega)) (HK.out.1.blk HK.out.2.2 d2 (Nat.le_refl _))))
    clear s2 d2 HK
    have HA := hide (HM.out.1.own (show Below W.heap.size w2 (w2.alloc (.cells (cellsI [0, -1, 4, 1001, 4096, 65536, 1099511627777, x]) 3)) from (Below.refl _ _).alloc HM.out.1.gb.size _))
    have KA := hide (Blk.new w2 (cellsI [0, -1, 4, 1001, 4096, 65536, 1099511627777, x]) 3)
    go_wp2_with fail
    refine (HA.out.sc.N 8 (by omega) (by omega)).mono ?_
    rintro e w3 ⟨z, rfl, hz0, hz1, s2, d2⟩
    obtain ⟨p, cp⟩ := cell_of (HA.out.blk KA.out d2 HM.out.1.gb.size) z hz0 (by simpa using hz1)
    have HK := hide (And.intro (HA.out.draw s2 d2) (And.intro (HA.out.blk (HM.out.2.1.alloc _) d2 (by omega)) (HA.out.blk (HM.out.2.2.alloc _) d2 (Nat.le_refl _))))
    clear s2 d2 HM HA KA
    go_wp2_with fail
    refine (HK.out.1.sc.N 10 (by omega) (by omega)).mono ?_
    rintro e w4 ⟨n, rfl, hn0, hn1, s2, d2⟩
    have HM := hide (And.intro (HK.out.1.draw s2 d2) (And.intro (HK.out.1.blk HK.out.2.1 d2 (by omega)) (HK.out.1.blk HK.out.2.2 d2 (Nat.le_refl _))))
    clear s2 d2 HK cp
    have HK := hide HM.out
    clear HM
    have hn : n = 0 ∨ n = 1 ∨ n = 2 ∨ n = 3 ∨ n = 4 ∨ n = 5 ∨ n = 6 ∨ n = 7 ∨ n = 8 ∨ n = 9 := by omega
    clear hn0 hn1
    rcases hn with rfl | rfl | rfl | rfl | rfl | rfl | rfl | rfl | rfl | rfl
    · obtain ⟨old, c4⟩ := cell_in HK.out.2.2 0 (by rw [HL.out]; omega)
      have f4 := HK.out.2.2.frozen 0
      have HJ := hide (And.intro (HK.out.1.set (k := 0) (Nat.le_refl _) HK.out.2.2 p) (HK.out.2.1.other ⟨W.heap.size, 0, none⟩ (.int .i64 p) (by show W.heap.size + 1 ≠ W.heap.size; omega)))
      clear HK
      have HL := hide (show (R.set 0 p).length = 24 by simp [HL.out])
      generalize R.set 0 p = R at HJ HL
      have HK := hide (And.intro HJ.out.1.1 (And.intro HJ.out.2 HJ.out.1.2))
      clear HJ
      have HZ := hide (show (cellsI R).size = 24 from by rw [cellsI_size]; exact HL.out)
      have HB := hide (HK.out.1.own (below_setRow (Below.refl W.heap.size _) (show W.heap.size ≤ W.heap.size + 1 by omega) (cellsI R)))
      go_wp2_with (first | (refine wpList_load_row rfl 44 _ rfl W.heap.size rfl 44 (cellsI R) (0, 0) _ HK.out.2.2 Tryd.underlying44 rfl (by rw [HZ.out]; exact info24) ?_) | (refine wpList_store_row rfl 44 _ _ rfl (W.heap.size + 1) (cellsI R) rfl rfl 44 _ HK.out.2.1 (by rw [HZ.out]; exact info24) (by rw [HZ.out]; rfl) (cellsI_one _) ?_) | fail)
      refine bodyPost_ret (v := .agg (cellsI R)) ?_ rfl ⟨_, HL.out, rfl, HB.out.sc, HB.out.gb⟩
      exact results_cell_row rfl _ _ (W.heap.size + 1) 44 (cellsI R) (0, 0) _ rfl (HK.out.2.1.row _) Tryd.underlying44 rfl (by rw [HZ.out]; exact info24)
    · obtain ⟨old, c4⟩ := cell_in HK.out.2.2 1 (by rw [HL.out]; omega)
      have f4 := HK.out.2.2.frozen 1
      have HJ := hide (And.intro (HK.out.1.set (k := 1) (Nat.le_refl _) HK.out.2.2 p) (HK.out.2.1.other ⟨W.heap.size, 1, none⟩ (.int .i64 p) (by show W.heap.size + 1 ≠ W.heap.size; omega)))
      clear HK
      have HL := hide (show (R.set 1 p).length = 24 by simp [HL.out])
      generalize R.set 1 p = R at HJ HL
      have HK := hide (And.intro HJ.out.1.1 (And.intro HJ.out.2 HJ.out.1.2))
      clear HJ
      have HZ := hide (show (cellsI R).size = 24 from by rw [cellsI_size]; exact HL.out)
      have HB := hide (HK.out.1.own (below_setRow (Below.refl W.heap.size _) (show W.heap.size ≤ W.heap.size + 1 by omega) (cellsI R)))
      go_wp2_with (first | (refine wpList_load_row rfl 44 _ rfl W.heap.size rfl 44 (cellsI R) (0, 0) _ HK.out.2.2 Tryd.underlying44 rfl (by rw [HZ.out]; exact info24) ?_) | (refine wpList_store_row rfl 44 _ _ rfl (W.heap.size + 1) (cellsI R) rfl rfl 44 _ HK.out.2.1 (by rw [HZ.out]; exact info24) (by rw [HZ.out]; rfl) (cellsI_one _) ?_) | fail)
      refine bodyPost_ret (v := .agg (cellsI R)) ?_ rfl ⟨_, HL.out, rfl, HB.out.sc, HB.out.gb⟩
      exact results_cell_row rfl _ _ (W.heap.size + 1) 44 (cellsI R) (0, 0) _ rfl (HK.out.2.1.row _) Tryd.underlying44 rfl (by rw [HZ.out]; exact info24)
    · obtain ⟨old, c4⟩ := cell_in HK.out.2.2 2 (by rw [HL.out]; omega)
      have f4 := HK.out.2.2.frozen 2
      have HJ := hide (And.intro (HK.out.1.set (k := 2) (Nat.le_refl _) HK.out.2.2 p) (HK.out.2.1.other ⟨W.heap.size, 2, none⟩ (.int .i64 p) (by show W.heap.size + 1 ≠ W.heap.size; omega)))
      clear HK
      have HL := hide (show (R.set 2 p).length = 24 by simp [HL.out])
      generalize R.set 2 p = R at HJ HL
      have HK := hide (And.intro HJ.out.1.1 (And.intro HJ.out.2 HJ.out.1.2))
      clear HJ
      have HZ := hide (show (cellsI R).size = 24 from by rw [cellsI_size]; exact HL.out)
      have HB := hide (HK.out.1.own (below_setRow (Below.refl W.heap.size _) (show W.heap.size ≤ W.heap.size + 1 by omega) (cellsI R)))
      go_wp2_with (first | (refine wpList_load_row rfl 44 _ rfl W.heap.size rfl 44 (cellsI R) (0, 0) _ HK.out.2.2 Tryd.underlying44 rfl (by rw [HZ.out]; exact info24) ?_) | (refine wpList_store_row rfl 44 _ _ rfl (W.heap.size + 1) (cellsI R) rfl rfl 44 _ HK.out.2.1 (by rw [HZ.out]; exact info24) (by rw [HZ.out]; rfl) (cellsI_one _) ?_) | fail)
      refine bodyPost_ret (v := .agg (cellsI R)) ?_ rfl ⟨_, HL.out, rfl, HB.out.sc, HB.out.gb⟩
      exact results_cell_row rfl _ _ (W.heap.size + 1) 44 (cellsI R) (0, 0) _ rfl (HK.out.2.1.row _) Tryd.underlying44 rfl (by rw [HZ.out]; exact info24)
    · obtain ⟨old, c4⟩ := cell_in HK.out.2.2 3 (by rw [HL.out]; omega)
      have f4 := HK.out.2.2.frozen 3
      have HJ := hide (And.intro (HK.out.1.set (k := 3) (Nat.le_refl _) HK.out.2.2 p) (HK.out.2.1.other ⟨W.heap.size, 3, none⟩ (.int .i64 p) (by show W.heap.size + 1 ≠ W.heap.size; omega)))
      clear HK
      have HL := hide (show (R.set 3 p).length = 24 by simp [HL.out])
      generalize R.set 3 p = R at HJ HL
      have HK := hide (And.intro HJ.out.1.1 (And.intro HJ.out.2 HJ.out.1.2))
      clear HJ
      have HZ := hide (show (cellsI R).size = 24 from by rw [cellsI_size]; exact HL.out)
      have HB := hide (HK.out.1.own (below_setRow (Below.refl W.heap.size _) (show W.heap.size ≤ W.heap.size + 1 by omega) (cellsI R)))
      go_wp2_with (first | (refine wpList_load_row rfl 44 _ rfl W.heap.size rfl 44 (cellsI R) (0, 0) _ HK.out.2.2 Tryd.underlying44 rfl (by rw [HZ.out]; exact info24) ?_) | (refine wpList_store_row rfl 44 _ _ rfl (W.heap.size + 1) (cellsI R) rfl rfl 44 _ HK.out.2.1 (by rw [HZ.out]; exact info24) (by rw [HZ.out]; rfl) (cellsI_one _) ?_) | fail)
      refine bodyPost_ret (v := .agg (cellsI R)) ?_ rfl ⟨_, HL.out, rfl, HB.out.sc, HB.out.gb⟩
      exact results_cell_row rfl _ _ (W.heap.size + 1) 44 (cellsI R) (0, 0) _ rfl (HK.out.2.1.row _) Tryd.underlying44 rfl (by rw [HZ.out]; exact info24)
    · obtain ⟨old, c4⟩ := cell_in HK.out.2.2 4 (by rw [HL.out]; omega)
      have f4 := HK.out.2.2.frozen 4
      have HJ := hide (And.intro (HK.out.1.set (k := 4) (Nat.le_refl _) HK.out.2.2 p) (HK.out.2.1.other ⟨W.heap.size, 4, none⟩ (.int .i64 p) (by show W.heap.size + 1 ≠ W.heap.size; omega)))
      clear HK
      have HL := hide (show (R.set 4 p).length = 24 by simp [HL.out])
      generalize R.set 4 p = R at HJ HL
      have HK := hide (And.intro HJ.out.1.1 (And.intro HJ.out.2 HJ.out.1.2))
      clear HJ
      have HZ := hide (show (cellsI R).size = 24 from by rw [cellsI_size]; exact HL.out)
      have HB := hide (HK.out.1.own (below_setRow (Below.refl W.heap.size _) (show W.heap.size ≤ W.heap.size + 1 by omega) (cellsI R)))
      go_wp2_with (first | (refine wpList_load_row rfl 44 _ rfl W.heap.size rfl 44 (cellsI R) (0, 0) _ HK.out.2.2 Tryd.underlying44 rfl (by rw [HZ.out]; exact info24) ?_) | (refine wpList_store_row rfl 44 _ _ rfl (W.heap.size + 1) (cellsI R) rfl rfl 44 _ HK.out.2.1 (by rw [HZ.out]; exact info24) (by rw [HZ.out]; rfl) (cellsI_one _) ?_) | fail)
      refine bodyPost_ret (v := .agg (cellsI R)) ?_ rfl ⟨_, HL.out, rfl, HB.out.sc, HB.out.gb⟩
      exact results_cell_row rfl _ _ (W.heap.size + 1) 44 (cellsI R) (0, 0) _ rfl (HK.out.2.1.row _) Tryd.underlying44 rfl (by rw [HZ.out]; exact info24)
    · obtain ⟨old, c4⟩ := cell_in HK.out.2.2 5 (by rw [HL.out]; omega)
      have f4 := HK.out.2.2.frozen 5
      have HJ := hide (And.intro (HK.out.1.set (k := 5) (Nat.le_refl _) HK.out.2.2 p) (HK.out.2.1.other ⟨W.heap.size, 5, none⟩ (.int .i64 p) (by show W.heap.size + 1 ≠ W.heap.size; omega)))
      clear HK
      have HL := hide (show (R.set 5 p).length = 24 by simp [HL.out])
      generalize R.set 5 p = R at HJ HL
      have HK := hide (And.intro HJ.out.1.1 (And.intro HJ.out.2 HJ.out.1.2))
      clear HJ
      have HZ := hide (show (cellsI R).size = 24 from by rw [cellsI_size]; exact HL.out)
      have HB := hide (HK.out.1.own (below_setRow (Below.refl W.heap.size _) (show W.heap.size ≤ W.heap.size + 1 by omega) (cellsI R)))
      go_wp2_with (first | (refine wpList_load_row rfl 44 _ rfl W.heap.size rfl 44 (cellsI R) (0, 0) _ HK.out.2.2 Tryd.underlying44 rfl (by rw [HZ.out]; exact info24) ?_) | (refine wpList_store_row rfl 44 _ _ rfl (W.heap.size + 1) (cellsI R) rfl rfl 44 _ HK.out.2.1 (by rw [HZ.out]; exact info24) (by rw [HZ.out]; rfl) (cellsI_one _) ?_) | fail)
      refine bodyPost_ret (v := .agg (cellsI R)) ?_ rfl ⟨_, HL.out, rfl, HB.out.sc, HB.out.gb⟩
      exact results_cell_row rfl _ _ (W.heap.size + 1) 44 (cellsI R) (0, 0) _ rfl (HK.out.2.1.row _) Tryd.underlying44 rfl (by rw [HZ.out]; exact info24)
    · obtain ⟨old, c4⟩ := cell_in HK.out.2.2 6 (by rw [HL.out]; omega)
      have f4 := HK.out.2.2.frozen 6
      have HJ := hide (And.intro (HK.out.1.set (k := 6) (Nat.le_refl _) HK.out.2.2 p) (HK.out.2.1.other ⟨W.heap.size, 6, none⟩ (.int .i64 p) (by show W.heap.size + 1 ≠ W.heap.size; omega)))
      clear HK
      have HL := hide (show (R.set 6 p).length = 24 by simp [HL.out])
      generalize R.set 6 p = R at HJ HL
      have HK := hide (And.intro HJ.out.1.1 (And.intro HJ.out.2 HJ.out.1.2))
      clear HJ
      have HZ := hide (show (cellsI R).size = 24 from by rw [cellsI_size]; exact HL.out)
      have HB := hide (HK.out.1.own (below_setRow (Below.refl W.heap.size _) (show W.heap.size ≤ W.heap.size + 1 by omega) (cellsI R)))
      go_wp2_with (first | (refine wpList_load_row rfl 44 _ rfl W.heap.size rfl 44 (cellsI R) (0, 0) _ HK.out.2.2 Tryd.underlying44 rfl (by rw [HZ.out]; exact info24) ?_) | (refine wpList_store_row rfl 44 _ _ rfl (W.heap.size + 1) (cellsI R) rfl rfl 44 _ HK.out.2.1 (by rw [HZ.out]; exact info24) (by rw [HZ.out]; rfl) (cellsI_one _) ?_) | fail)
      refine bodyPost_ret (v := .agg (cellsI R)) ?_ rfl ⟨_, HL.out, rfl, HB.out.sc, HB.out.gb⟩
      exact results_cell_row rfl _ _ (W.heap.size + 1) 44 (cellsI R) (0, 0) _ rfl (HK.out.2.1.row _) Tryd.underlying44 rfl (by rw [HZ.out]; exact info24)
    · obtain ⟨old, c4⟩ := cell_in HK.out.2.2 7 (by rw [HL.out]; omega)
      have f4 := HK.out.2.2.frozen 7
      have HJ := hide (And.intro (HK.out.1.set (k := 7) (Nat.le_refl _) HK.out.2.2 p) (HK.out.2.1.other ⟨W.heap.size, 7, none⟩ (.int .i64 p) (by show W.heap.size + 1 ≠ W.heap.size; omega)))
      clear HK
      have HL := hide (show (R.set 7 p).length = 24 by simp [HL.out])
      generalize R.set 7 p = R at HJ HL
      have HK := hide (And.intro HJ.out.1.1 (And.intro HJ.out.2 HJ.out.1.2))
      clear HJ
      have HZ := hide (show (cellsI R).size = 24 from by rw [cellsI_size]; exact HL.out)
      have HB := hide (HK.out.1.own (below_setRow (Below.refl W.heap.size _) (show W.heap.size ≤ W.heap.size + 1 by omega) (cellsI R)))
      go_wp2_with (first | (refine wpList_load_row rfl 44 _ rfl W.heap.size rfl 44 (cellsI R) (0, 0) _ HK.out.2.2 Tryd.underlying44 rfl (by rw [HZ.out]; exact info24) ?_) | (refine wpList_store_row rfl 44 _ _ rfl (W.heap.size + 1) (cellsI R) rfl rfl 44 _ HK.out.2.1 (by rw [HZ.out]; exact info24) (by rw [HZ.out]; rfl) (cellsI_one _) ?_) | fail)
      refine bodyPost_ret (v := .agg (cellsI R)) ?_ rfl ⟨_, HL.out, rfl, HB.out.sc, HB.out.gb⟩
      exact results_cell_row rfl _ _ (W.heap.size + 1) 44 (cellsI R) (0, 0) _ rfl (HK.out.2.1.row _) Tryd.underlying44 rfl (by rw [HZ.out]; exact info24)
    · obtain ⟨old, c4⟩ := cell_in HK.out.2.2 8 (by rw [HL.out]; omega)
      have f4 := HK.out.2.2.frozen 8
      have HJ := hide (And.intro (HK.out.1.set (k := 8) (Nat.le_refl _) HK.out.2.2 p) (HK.out.2.1.other ⟨W.heap.size, 8, none⟩ (.int .i64 p) (by show W.heap.size + 1 ≠ W.heap.size; omega)))
      clear HK
      have HL := hide (show (R.set 8 p).length = 24 by simp [HL.out])
      generalize R.set 8 p = R at HJ HL
      have HK := hide (And.intro HJ.out.1.1 (And.intro HJ.out.2 HJ.out.1.2))
      clear HJ
      have HZ := hide (show (cellsI R).size = 24 from by rw [cellsI_size]; exact HL.out)
      have HB := hide (HK.out.1.own (below_setRow (Below.refl W.heap.size _) (show W.heap.size ≤ W.heap.size + 1 by omega) (cellsI R)))
      go_wp2_with (first | (refine wpList_load_row rfl 44 _ rfl W.heap.size rfl 44 (cellsI R) (0, 0) _ HK.out.2.2 Tryd.underlying44 rfl (by rw [HZ.out]; exact info24) ?_) | (refine wpList_store_row rfl 44 _ _ rfl (W.heap.size + 1) (cellsI R) rfl rfl 44 _ HK.out.2.1 (by rw [HZ.out]; exact info24) (by rw [HZ.out]; rfl) (cellsI_one _) ?_) | fail)
      refine bodyPost_ret (v := .agg (cellsI R)) ?_ rfl ⟨_, HL.out, rfl, HB.out.sc, HB.out.gb⟩
      exact results_cell_row rfl _ _ (W.heap.size + 1) 44 (cellsI R) (0, 0) _ rfl (HK.out.2.1.row _) Tryd.underlying44 rfl (by rw [HZ.out]; exact info24)
    · have HQ := hide (show ((R.drop 9).take 15).length = 15 by simp [HL.out])
      have HR := hide (HK.out.2.2.range 9 15 (by rw [HL.out]; omega))
      generalize (R.drop 9).take 15 = Q at HQ HR
      have HZQ := hide (show (cellsI Q).size = 15 from by rw [cellsI_size]; exact HQ.out)
      go_wp2_with (first | (refine wpList_load_mid rfl 42 _ rfl W.heap.size 9 rfl (Q.map (Value.int .i64)) _ HR.out Tryd.underlying42 rfl (by rw [List.length_map, HQ.out]; exact info15) ?_) | fail)
      refine (spoilR_any HK.out.1.sc Q HQ.out).mono ?_
      rintro e w5 ⟨Q2, hQ2, rfl, s2, d2⟩
      have HM := hide (And.intro (HK.out.1.draw s2 d2) (And.intro (HK.out.1.blk HK.out.2.1 d2 (by omega)) (HK.out.1.blk HK.out.2.2 d2 (Nat.le_refl _))))
      clear s2 d2 HK HR HZQ
      have HQ := hide hQ2
      clear hQ2
      have HZQ := hide (show (cellsI Q2).size = 15 from by rw [cellsI_size]; exact HQ.out)
      have HK := hide (show Dn w0 W (w5.setCells W.heap.size 9 (cellsI Q2).toList) b cv cs ∧ Blk (w5.setCells W.heap.size 9 (cellsI Q2).toList) (W.heap.size + 1) (cellsI (List.replicate 24 0)) 44 ∧ Blk (w5.setCells W.heap.size 9 (cellsI Q2).toList) W.heap.size (cellsI (over R 9 Q2)) 44 from
        ⟨HM.out.1.own (below_cells (Nat.le_refl _) _ 9 (Below.refl _ _)), Blk.cells_other _ 9 HM.out.2.1 (by omega), Blk.cells Q2 9 HM.out.2.2 (by rw [HQ.out, HL.out]; omega)⟩)
      have HT := hide (HM.out.2.2.there 9 15 (by rw [cellsI_size, HL.out]; omega))
      have HL := hide (show (over R 9 Q2).length = 24 by rw [over_len _ _ _ (by rw [HQ.out, HL.out]; omega), HL.out])
      generalize over R 9 Q2 = R at HK HL
      clear HM
      have HZ := hide (show (cellsI R).size = 24 from by rw [cellsI_size]; exact HL.out)
      have HB := hide (HK.out.1.own (below_setRow (Below.refl W.heap.size _) (show W.heap.size ≤ W.heap.size + 1 by omega) (cellsI R)))
      go_wp2_with (first | (refine wpList_store_mid rfl 42 _ _ rfl W.heap.size 9 (cellsI Q2) rfl rfl (by rw [HZQ.out]; exact HT.out) (by rw [HZQ.out]; exact info15) (cellsI_one _) ?_) | (refine wpList_load_row rfl 44 _ rfl W.heap.size rfl 44 (cellsI R) (0, 0) _ HK.out.2.2 Tryd.underlying44 rfl (by rw [HZ.out]; exact info24) ?_) | (refine wpList_store_row rfl 44 _ _ rfl (W.heap.size + 1) (cellsI R) rfl rfl 44 _ HK.out.2.1 (by rw [HZ.out]; exact info24) (by rw [HZ.out]; rfl) (cellsI_one _) ?_) | fail)
      refine bodyPost_ret (v := .agg (cellsI R)) ?_ rfl ⟨_, HL.out, rfl, HB.out.sc, HB.out.gb⟩
      exact results_cell_row rfl _ _ (W.heap.size + 1) 44 (cellsI R) (0, 0) _ rfl (HK.out.2.1.row _) Tryd.underlying44 rfl (by rw [HZ.out]; exact info24)
end Go.Proofs.YtlgafpjmifacmaaDoor
