/- The program tells a root: told at Inode; DecodeRoot. -/
import Derived.Test.YtlgafpjmifacmaaDoorZt18
import Derived.Test.YtlgafpjmifacmaaDoorZt23
import Derived.Deep.RegionHeld3
namespace Go.Proofs.YtlgafpjmifacmaaDoor
set_option linter.unusedVariables false
set_option linter.unusedSimpArgs false
open Go.RowKit

def noIno : List Int := List.replicate 24 0

set_option maxRecDepth 100000 in
set_option maxHeartbeats 1000000 in
theorem toldI_ok (xs : List Int) (w : World) (hx : xs.length = 24) :
    Calls Tryd.prog 86 #[.agg (cellsI xs), .nilIface] w fun e w' => e = .returned (.tuple #[.agg (cellsI xs), .int .i64 0]) ∧ Below w.heap.size w w' := by
  have HZ := hide (show (cellsI xs).size = 24 from by rw [cellsI_size]; exact hx)
  have kB := (Blk.new w (cellsI xs) 44).alloc (.cells (cellsI noIno) 44)
  have kC := Blk.new (w.alloc (.cells (cellsI xs) 44)) (cellsI noIno) 44
  rw [World.size_alloc] at kC
  have K := hide (And.intro kB (And.intro kC (((Below.refl w.heap.size w).alloc (Nat.le_refl _) (.cells (cellsI xs) 44)).alloc (by simp) (.cells (cellsI noIno) 44))))
  clear kB kC hx
  go_enter Tryd.func86, Tryd.ntmps86
  go_wp2_with (first | (refine wpList_load_row rfl 44 _ rfl w.heap.size rfl 44 (cellsI xs) (0, 0) _ K.out.1 Tryd.underlying44 rfl (by rw [HZ.out]; exact info24) ?_) | (refine wpList_store_row rfl 44 _ _ rfl (w.heap.size + 1) (cellsI xs) rfl rfl 44 _ K.out.2.1 (by rw [HZ.out]; exact info24) (by rw [HZ.out]; rfl) (cellsI_one _) ?_))
  refine bodyPost_ret (v := .tuple #[.agg (cellsI xs), .int .i64 0]) ?_ rfl ⟨rfl, below_setRow K.out.2.2 (by omega) _⟩
  exact results_row_tmp rfl _ _ (w.heap.size + 1) 44 (cellsI xs) (0, 0) _ _ rfl rfl (K.out.2.1.row _) Tryd.underlying44 rfl (by rw [HZ.out]; exact info24)

theorem noIno_range {w : World} {b : Nat} {t : TypeId} (h : Blk w b (cellsI noIno) t) : w.rangeAt b 0 (noIno.map (Value.int .i64)) := by
  have := h.range 0 24 (by decide)
  exact this
set_option maxRecDepth 100000 in
set_option maxHeartbeats 2000000 in
theorem toldI_bad (xs : List Int) (lo n : Nat) (v : Value) (c : Int) (w : World) (hx : xs.length = 24) (hv : Flt w lo n v c) (hg : ErrT w) :
    Calls Tryd.prog 86 #[.agg (cellsI xs), v] w fun e w' => e = .returned (.tuple #[.agg (cellsI noIno), .int .i64 c]) ∧ Below w.heap.size w w' := by
  have HZ := hide (show (cellsI xs).size = 24 from by rw [cellsI_size]; exact hx)
  have HV := hide (And.intro hv hg)
  obtain ⟨t', x', rfl⟩ := hv.iface
  clear hv hg hx
  go_enter Tryd.func86, Tryd.ntmps86
  have kB := ((Blk.new (w.alloc (.cells (cellsI xs) 44)) #[.int .i64 0, .int .i64 0, .int .i64 0, .int .i64 0, .int .i64 0, .int .i64 0, .int .i64 0, .int .i64 0, .int .i64 0, .int .i64 0, .int .i64 0, .int .i64 0, .int .i64 0, .int .i64 0, .int .i64 0, .int .i64 0, .int .i64 0, .int .i64 0, .int .i64 0, .int .i64 0, .int .i64 0, .int .i64 0, .int .i64 0, .int .i64 0] 44).alloc (.cells #[.int .i64 0, .int .i64 0, .int .i64 0, .int .i64 0, .int .i64 0, .int .i64 0, .int .i64 0, .int .i64 0, .int .i64 0, .int .i64 0, .int .i64 0, .int .i64 0, .int .i64 0, .int .i64 0, .int .i64 0, .int .i64 0, .int .i64 0, .int .i64 0, .int .i64 0, .int .i64 0, .int .i64 0, .int .i64 0, .int .i64 0, .int .i64 0] 44))
  have kC := Blk.new ((w.alloc (.cells (cellsI xs) 44)).alloc (.cells #[.int .i64 0, .int .i64 0, .int .i64 0, .int .i64 0, .int .i64 0, .int .i64 0, .int .i64 0, .int .i64 0, .int .i64 0, .int .i64 0, .int .i64 0, .int .i64 0, .int .i64 0, .int .i64 0, .int .i64 0, .int .i64 0, .int .i64 0, .int .i64 0, .int .i64 0, .int .i64 0, .int .i64 0, .int .i64 0, .int .i64 0, .int .i64 0] 44)) #[.int .i64 0, .int .i64 0, .int .i64 0, .int .i64 0, .int .i64 0, .int .i64 0, .int .i64 0, .int .i64 0, .int .i64 0, .int .i64 0, .int .i64 0, .int .i64 0, .int .i64 0, .int .i64 0, .int .i64 0, .int .i64 0, .int .i64 0, .int .i64 0, .int .i64 0, .int .i64 0, .int .i64 0, .int .i64 0, .int .i64 0, .int .i64 0] 44
  rw [World.size_alloc] at kB
  rw [World.size_alloc, World.size_alloc] at kC
  have K0 := hide (And.intro kB (And.intro kC ((((Below.refl w.heap.size w).alloc (Nat.le_refl _) (.cells (cellsI xs) 44)).alloc (by simp) (.cells #[.int .i64 0, .int .i64 0, .int .i64 0, .int .i64 0, .int .i64 0, .int .i64 0, .int .i64 0, .int .i64 0, .int .i64 0, .int .i64 0, .int .i64 0, .int .i64 0, .int .i64 0, .int .i64 0, .int .i64 0, .int .i64 0, .int .i64 0, .int .i64 0, .int .i64 0, .int .i64 0, .int .i64 0, .int .i64 0, .int .i64 0, .int .i64 0] 44)).alloc (by simp; omega) (.cells #[.int .i64 0, .int .i64 0, .int .i64 0, .int .i64 0, .int .i64 0, .int .i64 0, .int .i64 0, .int .i64 0, .int .i64 0, .int .i64 0, .int .i64 0, .int .i64 0, .int .i64 0, .int .i64 0, .int .i64 0, .int .i64 0, .int .i64 0, .int .i64 0, .int .i64 0, .int .i64 0, .int .i64 0, .int .i64 0, .int .i64 0, .int .i64 0] 44))))
  clear kB kC
  go_wp2
  generalize hW : ((w.alloc (.cells (cellsI xs) 44)).alloc (.cells #[.int .i64 0, .int .i64 0, .int .i64 0, .int .i64 0, .int .i64 0, .int .i64 0, .int .i64 0, .int .i64 0, .int .i64 0, .int .i64 0, .int .i64 0, .int .i64 0, .int .i64 0, .int .i64 0, .int .i64 0, .int .i64 0, .int .i64 0, .int .i64 0, .int .i64 0, .int .i64 0, .int .i64 0, .int .i64 0, .int .i64 0, .int .i64 0] 44)).alloc (.cells #[.int .i64 0, .int .i64 0, .int .i64 0, .int .i64 0, .int .i64 0, .int .i64 0, .int .i64 0, .int .i64 0, .int .i64 0, .int .i64 0, .int .i64 0, .int .i64 0, .int .i64 0, .int .i64 0, .int .i64 0, .int .i64 0, .int .i64 0, .int .i64 0, .int .i64 0, .int .i64 0, .int .i64 0, .int .i64 0, .int .i64 0, .int .i64 0] 44) = W at K0 ⊢
  have hWs : W.heap.size = w.heap.size + 3 := by rw [← hW]; simp
  clear hW
  refine wp_region_noPanic ?_
  refine wp_region_held_drew (S := fun w' => Blk w' (w.heap.size + 1 + 1) (cellsI noIno) 44) (by kernel_rfl) (show Blk W.drew (w.heap.size + 1 + 1) (cellsI noIno) 44 from K0.out.2.1) (fun hH => ?_)
  refine wpAnyH_take (i := 0) (oi := _) (v := .agg (cellsI noIno)) rfl (by kernel_rfl) (by kernel_rfl) (by kernel_rfl) (fun _ _ _ h => h) (yieldsIf_load_mid (by rfl) 44 _ rfl (w.heap.size + 1 + 1) 0 rfl (noIno.map (Value.int .i64)) _ (fun w' h => noIno_range h) Tryd.underlying44 rfl info24) hH ?_
  try simp only [Act.put, List.setIfInBounds_toArray, List.set_cons_zero, List.set_cons_succ]
  refine wpAnyH_take (i := 1) (oi := _) (v := .iface t' (.pointer (some x'))) rfl (by kernel_rfl) (by kernel_rfl) (by kernel_rfl) (fun _ _ _ h => h) (Or.inl ⟨by rfl, fun w' hw' => by rfl⟩) hH ?_
  try simp only [Act.put, List.setIfInBounds_toArray, List.set_cons_zero, List.set_cons_succ]
  refine wpAnyH_ready (rs := [2]) (by kernel_rfl) (by simp) ?_
  refine AllReadyH.cons (o := _) rfl (fun K hK => ?_) AllReadyH.nil
  go_simp
  refine (codeOf_any n _ c lo _ (HV.out.1.below (K0.out.2.2.drew.mono (by omega))) (HV.out.2.below K0.out.2.2.drew)).mono ?_
  rintro e w5 ⟨rfl, b5⟩
  have s5 : Blk w5 (w.heap.size + 1 + 1) (cellsI noIno) 44 := Blk.below (w := W.drew) K0.out.2.1 b5 (by show _ < W.heap.size; omega)
  have kb5 : Blk w5 (w.heap.size + 1) (cellsI noIno) 44 := Blk.below (w := W.drew) K0.out.1 b5 (by show _ < W.heap.size; omega)
  have HF := hide (And.intro (kb5.row (cellsI noIno)) (below_setRow (g := w.heap.size + 1) (K0.out.2.2.trans ((((Below.refl _ W).drew).trans b5).mono (by show w.heap.size ≤ W.heap.size; omega))) (by omega) (cellsI noIno)))
  have KB5 := hide kb5
  clear b5 kb5
  refine hK.out _ _ s5 (fun hH5 => ?_)
  clear hK K hH
  try simp only [Act.put, List.setIfInBounds_toArray, List.set_cons_zero, List.set_cons_succ]
  refine wpAnyH_ready (rs := [3]) (by kernel_rfl) (by simp) ?_
  refine AllReadyH.cons (o := _) rfl (fun K hK => ?_) AllReadyH.nil
  rw [if_pos (by rfl)]
  refine wp_store_row 44 _ _ rfl (w.heap.size + 1) (cellsI noIno) rfl rfl 44 _ KB5.out info24 rfl (cellsI_one _) ?_
  refine hK.out _ _ (show Blk _ _ _ _ from (setRow_block _ _ _ _ (by omega)).trans hH5) (fun hH6 => ?_)
  clear hK K
  try simp only [Act.put, List.setIfInBounds_toArray, List.set_cons_zero, List.set_cons_succ]
  refine wpAnyH_ready (rs := [4]) (by kernel_rfl) (by simp) ?_
  refine AllReadyH.cons (o := _) rfl (fun K hK => ?_) AllReadyH.nil
  go_simp
  refine hK.out _ _ hH6 (fun hH7 => ?_)
  clear hK K
  try simp only [Act.put, List.setIfInBounds_toArray, List.set_cons_zero, List.set_cons_succ]
  refine wpAnyH_done (by kernel_rfl) (NoPanic.normal ?_) _
  clear hH5 hH6 hH7 s5
  go_wp2
  refine bodyPost_ret (v := .tuple #[.agg (cellsI noIno), .int .i64 c]) ?_ rfl ⟨rfl, HF.out.2⟩
  exact results_row_tmp rfl _ _ (w.heap.size + 1) 44 (cellsI noIno) (0, 0) _ _ rfl rfl HF.out.1 Tryd.underlying44 rfl info24
end Go.Proofs.YtlgafpjmifacmaaDoor
