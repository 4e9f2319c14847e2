/- The program's EncodeRoot: it gives encR, in memory of its own. -/
import Derived.Test.YtfpfhmnmcjnmaaaDoorRootH
import Derived.Outline
namespace Go.Proofs.YtfpfhmnmcjnmaaaDoor
set_option linter.unusedVariables false
set_option linter.unusedSimpArgs false
open Go.RowKit

theorem make64 (w : World) : (Instr.makeSlice 23 (.int .i64 0) (.int .i64 64)).run Tryd.prog w = .ok (.slice (some ⟨w.heap.size, 0, none⟩) 0 64) (w.alloc (.cells (Array.replicate 64 (.int .u8 0)) 5)) := by kernel_rfl

theorem list12 {ds : List Int} (h : ds.length = 12) : ∃ d0 d1 d2 d3 d4 d5 d6 d7 d8 d9 d10 d11, ds = [d0, d1, d2, d3, d4, d5, d6, d7, d8, d9, d10, d11] := by
  match ds, h with | [d0, d1, d2, d3, d4, d5, d6, d7, d8, d9, d10, d11], _ => exact ⟨d0, d1, d2, d3, d4, d5, d6, d7, d8, d9, d10, d11, rfl⟩
theorem far_cells {w1 w5 : World} {b : Nat} {o : Obj} (hb : b < w1.heap.size) (g5 : (w1.alloc o).drew.grownBy w5 (some w1.heap.size)) : ∀ j, w5.cell? ⟨b, j, none⟩ = w1.cell? ⟨b, j, none⟩ := fun j =>
  World.cell?_of_block (a := ⟨b, j, none⟩) ((g5.block b (show b < (w1.alloc o).heap.size by simp; omega) (by simp; omega)).trans (Below.heap_alloc w1 o b hb))
theorem below_far {w w1 w5 : World} {o : Obj} (g5 : (w1.alloc o).drew.grownBy w5 (some w1.heap.size)) (hs : w.heap.size ≤ w1.heap.size) : Below w.heap.size w1 w5 :=
  (((Below.refl w.heap.size w1).alloc hs o).drew).grown g5 (show w.heap.size ≤ (w1.alloc o).heap.size by simp; omega) (fun k h => by cases h; exact hs)

set_option maxRecDepth 100000 in
set_option maxHeartbeats 1000000 in
theorem implR_any (s : Int) (ds : List Int) (p q : Int) (w : World) (hd : ds.length = 12) (hg : ErrT w) :
    Calls Tryd.prog 22 #[.agg (cellsI (rootI s ds p q))] w fun e w' => ∃ v', e = .returned (.tuple #[v', .int .i64 (codeR s ds p q)]) ∧ w'.ownsRow w.heap.size 5 1 v' (encR s ds p q).length ((encR s ds p q).map (Value.int .u8)) ∧ Below w.heap.size w w' := by
  obtain ⟨d0, d1, d2, d3, d4, d5, d6, d7, d8, d9, d10, d11, rfl⟩ := list12 hd
  have HD := hide hd
  have HZ := hide (show (cellsI (rootI s [d0, d1, d2, d3, d4, d5, d6, d7, d8, d9, d10, d11] p q)).size = 15 from by rw [cellsI_size]; exact rootI_len s [d0, d1, d2, d3, d4, d5, d6, d7, d8, d9, d10, d11] p q HD.out)
  have hb0 : Below w.heap.size w (w.alloc (.cells (cellsI (rootI s [d0, d1, d2, d3, d4, d5, d6, d7, d8, d9, d10, d11] p q)) 36)) := (Below.refl _ _).alloc (Nat.le_refl _) _
  have HB0 := hide hb0
  have HE := hide hg
  clear hd hb0 hg
  go_enter Tryd.func22, Tryd.ntmps22
  go_wp2_with (first | (refine wpList_load_row rfl 36 _ rfl w.heap.size rfl 36 (cellsI (rootI s [d0, d1, d2, d3, d4, d5, d6, d7, d8, d9, d10, d11] p q)) (0, 0) _ (Blk.new w _ _) Tryd.underlying36 rfl (by rw [HZ.out]; exact info15) ?_) | (go_at_call 55; fail))
  refine (rootFault_any s [d0, d1, d2, d3, d4, d5, d6, d7, d8, d9, d10, d11] p q 7 _ HD.out).mono ?_
  rintro e w1 ⟨ev, rfl, hf, b1⟩
  have HB1 := hide (HB0.out.trans (b1.mono HB0.out.size))
  have HK := hide ((Blk.new w (cellsI (rootI s [d0, d1, d2, d3, d4, d5, d6, d7, d8, d9, d10, d11] p q)) 36).below b1 (by simp))
  clear b1
  rcases hf with ⟨hr, rfl⟩ | ⟨hr, m, hm⟩
  · have HR := hide hr
    have hbd := right_bd HD.out hr
    have HBD := hide hbd
    clear hr hbd
    have hmk := make64
    have OWN := hide (World.ownsRow_made (base := w1.heap.size) (e := 5) (size := 1) w1 (Array.replicate 64 (.int .u8 0)) 64 (Nat.le_refl _) (by unfold maxLen; omega) (by simp))
    have q0 : w1.cell? ⟨w.heap.size, 0, none⟩ = some (.int .i64 s) := HK.out.cell 0
    have q1 : w1.cell? ⟨w.heap.size, 1, none⟩ = some (.int .i64 d0) := HK.out.cell 1
    have q2 : w1.cell? ⟨w.heap.size, 2, none⟩ = some (.int .i64 d1) := HK.out.cell 2
    have q3 : w1.cell? ⟨w.heap.size, 3, none⟩ = some (.int .i64 d2) := HK.out.cell 3
    have q4 : w1.cell? ⟨w.heap.size, 4, none⟩ = some (.int .i64 d3) := HK.out.cell 4
    have q5 : w1.cell? ⟨w.heap.size, 5, none⟩ = some (.int .i64 d4) := HK.out.cell 5
    have q6 : w1.cell? ⟨w.heap.size, 6, none⟩ = some (.int .i64 d5) := HK.out.cell 6
    have q7 : w1.cell? ⟨w.heap.size, 7, none⟩ = some (.int .i64 d6) := HK.out.cell 7
    have q8 : w1.cell? ⟨w.heap.size, 8, none⟩ = some (.int .i64 d7) := HK.out.cell 8
    have q9 : w1.cell? ⟨w.heap.size, 9, none⟩ = some (.int .i64 d8) := HK.out.cell 9
    have q10 : w1.cell? ⟨w.heap.size, 10, none⟩ = some (.int .i64 d9) := HK.out.cell 10
    have q11 : w1.cell? ⟨w.heap.size, 11, none⟩ = some (.int .i64 d10) := HK.out.cell 11
    have q12 : w1.cell? ⟨w.heap.size, 12, none⟩ = some (.int .i64 d11) := HK.out.cell 12
    have q13 : w1.cell? ⟨w.heap.size, 13, none⟩ = some (.int .i64 p) := HK.out.cell 13
    have q14 : w1.cell? ⟨w.heap.size, 14, none⟩ = some (.int .i64 q) := HK.out.cell 14
    have hsz := HB1.out.size
    have hlt := HK.out.lt
    go_wp2
    go_region_held (fun w' => w'.cell? ⟨w.heap.size, 0, none⟩ = some (.int .i64 s) ∧ w'.cell? ⟨w.heap.size, 1, none⟩ = some (.int .i64 d0) ∧ w'.cell? ⟨w.heap.size, 2, none⟩ = some (.int .i64 d1) ∧ w'.cell? ⟨w.heap.size, 3, none⟩ = some (.int .i64 d2) ∧ w'.cell? ⟨w.heap.size, 4, none⟩ = some (.int .i64 d3) ∧ w'.cell? ⟨w.heap.size, 5, none⟩ = some (.int .i64 d4) ∧ w'.cell? ⟨w.heap.size, 6, none⟩ = some (.int .i64 d5) ∧ w'.cell? ⟨w.heap.size, 7, none⟩ = some (.int .i64 d6) ∧ w'.cell? ⟨w.heap.size, 8, none⟩ = some (.int .i64 d7) ∧ w'.cell? ⟨w.heap.size, 9, none⟩ = some (.int .i64 d8) ∧ w'.cell? ⟨w.heap.size, 10, none⟩ = some (.int .i64 d9) ∧ w'.cell? ⟨w.heap.size, 11, none⟩ = some (.int .i64 d10) ∧ w'.cell? ⟨w.heap.size, 12, none⟩ = some (.int .i64 d11) ∧ w'.cell? ⟨w.heap.size, 13, none⟩ = some (.int .i64 p) ∧ w'.cell? ⟨w.heap.size, 14, none⟩ = some (.int .i64 q)) (go_keep) ((go_at_call 56; refine (layRoot_any w1.heap.size w1.heap.size 0 64 [] s [d0, d1, d2, d3, d4, d5, d6, d7, d8, d9, d10, d11] p q _ OWN.out.drew (by omega) (by omega) rfl HBD.out.1 HBD.out.2).mono ?_; rintro e w5 ⟨rfl, o5, g5⟩; have re := far_cells hlt g5))
    have HO := hide o5
    have HG := hide (HB1.out.trans (below_far g5 hsz))
    clear o5 g5 re
    go_wp2
    go_ret2
    refine ⟨_, by rw [codeR, HR.out]; rfl, ?_, HG.out⟩
    rw [encR, if_pos HR.out, bytesR_len _ _ _ _ HD.out]
    exact own_mono HO.out hsz
  · have HR := hide hr
    obtain ⟨t', x', rfl⟩ := hm.iface
    have H4 := hide hm
    clear hr hm
    go_wp2_with (go_at_call 48; refine (codeOf_any m _ 7 _ _ H4.out (HE.out.below HB1.out)).mono ?_; rintro e w2 ⟨rfl, hb2⟩)
    go_ret2
    exact ⟨_, by rw [codeR, HR.out]; rfl, by rw [encR, HR.out]; exact World.ownsRow_nil _ _ _ _, HB1.out.trans (hb2.mono HB1.out.size)⟩
end Go.Proofs.YtfpfhmnmcjnmaaaDoor
