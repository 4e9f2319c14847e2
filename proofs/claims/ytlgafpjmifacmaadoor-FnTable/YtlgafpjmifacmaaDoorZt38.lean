/- The model's DecodeInode. -/
import Derived.Test.YtlgafpjmifacmaaDoorZt28
import Derived.Test.YtlgafpjmifacmaaDoorZt20
import Derived.Test.YtlgafpjmifacmaaDoorZt25
import Derived.Deep.RegionHeld3
namespace Go.Proofs.YtlgafpjmifacmaaDoor
set_option linter.unusedVariables false
set_option linter.unusedSimpArgs false
open Go.RowKit

theorem strOf_inj {xs ys : List Int} (hx : ∀ z ∈ xs, 0 ≤ z ∧ z < 256) (hy : ∀ z ∈ ys, 0 ≤ z ∧ z < 256) (h : (strOfNums xs).toList = (strOfNums ys).toList) : xs = ys := by
  have h1 : (strOfNums xs).data.toList = (strOfNums ys).data.toList := by rw [ByteArray.toList_eq, ByteArray.toList_eq] at h; exact h
  rw [strOfNums_data, strOfNums_data] at h1
  clear h
  induction xs generalizing ys with
  | nil =>
    cases ys with
    | nil => rfl
    | cons y ys => simp at h1
  | cons x xs ih =>
    cases ys with
    | nil => simp at h1
    | cons y ys =>
      simp only [List.map_cons, List.cons.injEq] at h1
      have hxb := hx x (by simp)
      have hyb := hy y (by simp)
      have e : x = y := by
        have h2 := congrArg UInt8.toNat h1.1
        simp only [UInt8.toNat_ofNat'] at h2
        omega
      rw [e, ih (fun z hz => hx z (by simp [hz])) (fun z hz => hy z (by simp [hz])) h1.2]

set_option maxRecDepth 100000 in
set_option maxHeartbeats 1000000 in
theorem specDI_bad (v : Value) (zs : List Int) (w : World) (h : Rd .u8 w v zs) (hz : zs.length ≠ 128) :
    Calls Tryd.prog 33 #[v] w fun e w' => e = .returned (.tuple #[.agg (cellsI noIno), .int .i64 21]) ∧ Below w.heap.size w w' := by
  have HB := hide (show ∀ C, Below w.heap.size w (w.alloc C) from fun C => (Below.refl _ _).alloc (Nat.le_refl _) _)
  obtain ⟨a, cap, rfl, hm, _⟩ := h
  unfold maxLen at hm
  have hn : ¬ ((zs.length : Int) = 128) := by omega
  go_enter Tryd.func33, Tryd.ntmps33
  go_wp2_with (refine wpList_store_row rfl 44 _ _ rfl w.heap.size #[.int .i64 0, .int .i64 0, .int .i64 0, .int .i64 0, .int .i64 0, .int .i64 0, .int .i64 0, .int .i64 0, .int .i64 0, .int .i64 0, .int .i64 0, .int .i64 0, .int .i64 0, .int .i64 0, .int .i64 0, .int .i64 0, .int .i64 0, .int .i64 0, .int .i64 0, .int .i64 0, .int .i64 0, .int .i64 0, .int .i64 0, .int .i64 0] rfl rfl 44 _ (Blk.new w #[.int .i64 0, .int .i64 0, .int .i64 0, .int .i64 0, .int .i64 0, .int .i64 0, .int .i64 0, .int .i64 0, .int .i64 0, .int .i64 0, .int .i64 0, .int .i64 0, .int .i64 0, .int .i64 0, .int .i64 0, .int .i64 0, .int .i64 0, .int .i64 0, .int .i64 0, .int .i64 0, .int .i64 0, .int .i64 0, .int .i64 0, .int .i64 0] 44) info24 rfl (cellsI_one noIno) ?_)
  refine bodyPost_ret (v := .tuple #[.agg (cellsI noIno), .int .i64 21]) ?_ rfl ⟨rfl, below_setRow (HB.out _) (Nat.le_refl _) _⟩
  exact results_row_tmp rfl _ _ w.heap.size 44 (cellsI noIno) (0, 0) _ _ rfl rfl ((Blk.new w #[.int .i64 0, .int .i64 0, .int .i64 0, .int .i64 0, .int .i64 0, .int .i64 0, .int .i64 0, .int .i64 0, .int .i64 0, .int .i64 0, .int .i64 0, .int .i64 0, .int .i64 0, .int .i64 0, .int .i64 0, .int .i64 0, .int .i64 0, .int .i64 0, .int .i64 0, .int .i64 0, .int .i64 0, .int .i64 0, .int .i64 0, .int .i64 0] 44).row _) Tryd.underlying44 rfl info24

set_option maxRecDepth 100000 in
set_option maxHeartbeats 8000000 in
theorem specDI_128 (v : Value) (zs : List Int) (w : World) (h : Rd .u8 w v zs) (hbd : ∀ z ∈ zs, 0 ≤ z ∧ z < 256) (hz : zs.length = 128) (z0 : Int) (x1 x2 x3 x4 x5 x6 x7 x8 xs xp xq : Nat) (d0 d1 d2 d3 d4 d5 d6 d7 d8 d9 d10 d11 : Int)
    (e0 : z0 = zs.getD 0 0) (e1 : x1 = gval ((zs.drop 2).take 2)) (e2 : x2 = gval ((zs.drop 4).take 2)) (e3 : x3 = gval ((zs.drop 6).take 2)) (e4 : x4 = gval ((zs.drop 8).take 2)) (e5 : x5 = gval ((zs.drop 12).take 4)) (e6 : x6 = gval ((zs.drop 16).take 8)) (e7 : x7 = gval ((zs.drop 24).take 8)) (e8 : x8 = gval ((zs.drop 32).take 8)) (es : xs = gval (((zs.drop 40).take 64).take 8)) (ew : gwords ((zs.drop 40).take 64) 12 = [d0, d1, d2, d3, d4, d5, d6, d7, d8, d9, d10, d11]) (ep : xp = gval ((((zs.drop 40).take 64).drop 56).take 4)) (eq : xq = gval ((((zs.drop 40).take 64).drop 60).take 4)) (hbe : ∀ z ∈ (encI z0 (x1 : Int) (x2 : Int) (x3 : Int) (x4 : Int) (x5 : Int) (x6 : Int) (x7 : Int) (x8 : Int) (xs : Int) [d0, d1, d2, d3, d4, d5, d6, d7, d8, d9, d10, d11] (xp : Int) (xq : Int)), 0 ≤ z ∧ z < 256) (r b : Bool) (hr : rightIno z0 (x1 : Int) (x2 : Int) (x3 : Int) (x4 : Int) (x5 : Int) (x6 : Int) (x7 : Int) (x8 : Int) (xs : Int) [d0, d1, d2, d3, d4, d5, d6, d7, d8, d9, d10, d11] (xp : Int) (xq : Int) = r) (hb : decide ((encI z0 (x1 : Int) (x2 : Int) (x3 : Int) (x4 : Int) (x5 : Int) (x6 : Int) (x7 : Int) (x8 : Int) (xs : Int) [d0, d1, d2, d3, d4, d5, d6, d7, d8, d9, d10, d11] (xp : Int) (xq : Int)) = zs) = b) :
    Calls Tryd.prog 33 #[v] w fun e w' => e = .returned (.tuple #[.agg (cellsI (if (r && b) = true then inoI [z0, (x1 : Int), (x2 : Int), (x3 : Int), (x4 : Int), (x5 : Int), (x6 : Int), (x7 : Int), (x8 : Int)] (xs : Int) [d0, d1, d2, d3, d4, d5, d6, d7, d8, d9, d10, d11] (xp : Int) (xq : Int) else noIno)), .int .i64 (if (r && b) = true then 0 else 21)]) ∧ Below w.heap.size w w' := by
  have HR := hide h
  have HRB := hide (And.intro hr (And.intro hb (And.intro hbe hbd)))
  have HZ0 := hide hz
  obtain ⟨bd, off, cap, rfl, hbw, hcl, hcm, hcell⟩ := h.partsC (by omega)
  unfold maxLen at hcm
  obtain ⟨W, hW⟩ : ∃ W, W = w.alloc (.cells #[.int .i64 0, .int .i64 0, .int .i64 0, .int .i64 0, .int .i64 0, .int .i64 0, .int .i64 0, .int .i64 0, .int .i64 0, .int .i64 0, .int .i64 0, .int .i64 0, .int .i64 0, .int .i64 0, .int .i64 0, .int .i64 0, .int .i64 0, .int .i64 0, .int .i64 0, .int .i64 0, .int .i64 0, .int .i64 0, .int .i64 0, .int .i64 0] 44) := ⟨_, rfl⟩
  have hb0 : Below w.heap.size w W := by rw [hW]; exact (Below.refl _ _).alloc (Nat.le_refl _) _
  have KB0 := hide (show Blk W w.heap.size (cellsI noIno) 44 from by rw [hW]; exact Blk.new w _ _)
  have HB0 := hide hb0
  have hlw : w.heap.size < W.heap.size := KB0.out.lt
  have RW : ∀ w2, Below W.heap.size W w2 → Rd .u8 w2 (.slice (some ⟨bd, off, none⟩) zs.length cap) zs := fun w2 h2 => HR.out.below (hb0.trans (h2.mono hb0.size))
  have HC1 := hide (fun (w2 : World) (h2 : Below W.heap.size W w2) => get_any _ ((zs.drop 2).take 2) w2 (Rd.cut2 2 2 (RW w2 h2) (by omega) (by omega)) (by simp; omega) (fun z hz => hbd z (List.mem_of_mem_drop (List.mem_of_mem_take hz))))
  rw [← e1] at HC1
  have HC2 := hide (fun (w2 : World) (h2 : Below W.heap.size W w2) => get_any _ ((zs.drop 4).take 2) w2 (Rd.cut2 4 2 (RW w2 h2) (by omega) (by omega)) (by simp; omega) (fun z hz => hbd z (List.mem_of_mem_drop (List.mem_of_mem_take hz))))
  rw [← e2] at HC2
  have HC3 := hide (fun (w2 : World) (h2 : Below W.heap.size W w2) => get_any _ ((zs.drop 6).take 2) w2 (Rd.cut2 6 2 (RW w2 h2) (by omega) (by omega)) (by simp; omega) (fun z hz => hbd z (List.mem_of_mem_drop (List.mem_of_mem_take hz))))
  rw [← e3] at HC3
  have HC4 := hide (fun (w2 : World) (h2 : Below W.heap.size W w2) => get_any _ ((zs.drop 8).take 2) w2 (Rd.cut2 8 2 (RW w2 h2) (by omega) (by omega)) (by simp; omega) (fun z hz => hbd z (List.mem_of_mem_drop (List.mem_of_mem_take hz))))
  rw [← e4] at HC4
  have HC5 := hide (fun (w2 : World) (h2 : Below W.heap.size W w2) => get_any _ ((zs.drop 12).take 4) w2 (Rd.cut2 12 4 (RW w2 h2) (by omega) (by omega)) (by simp; omega) (fun z hz => hbd z (List.mem_of_mem_drop (List.mem_of_mem_take hz))))
  rw [← e5] at HC5
  have HC6 := hide (fun (w2 : World) (h2 : Below W.heap.size W w2) => get_any _ ((zs.drop 16).take 8) w2 (Rd.cut2 16 8 (RW w2 h2) (by omega) (by omega)) (by simp; omega) (fun z hz => hbd z (List.mem_of_mem_drop (List.mem_of_mem_take hz))))
  rw [← e6] at HC6
  have HC7 := hide (fun (w2 : World) (h2 : Below W.heap.size W w2) => get_any _ ((zs.drop 24).take 8) w2 (Rd.cut2 24 8 (RW w2 h2) (by omega) (by omega)) (by simp; omega) (fun z hz => hbd z (List.mem_of_mem_drop (List.mem_of_mem_take hz))))
  rw [← e7] at HC7
  have HC8 := hide (fun (w2 : World) (h2 : Below W.heap.size W w2) => get_any _ ((zs.drop 32).take 8) w2 (Rd.cut2 32 8 (RW w2 h2) (by omega) (by omega)) (by simp; omega) (fun z hz => hbd z (List.mem_of_mem_drop (List.mem_of_mem_take hz))))
  rw [← e8] at HC8
  have HC9 := hide (fun (w2 : World) (h2 : Below W.heap.size W w2) => rootOf_any _ ((zs.drop 40).take 64) w2 (Rd.cut2 40 64 (RW w2 h2) (by omega) (by omega)) (fun z hz => hbd z (List.mem_of_mem_drop (List.mem_of_mem_take hz))) (by simp; omega))
  rw [ew, ← es, ← ep, ← eq] at HC9
  have HC9 := hide (show ∀ w2, Below W.heap.size W w2 → Calls Tryd.prog 55 #[.slice (some ⟨bd, off + 40, none⟩) 64 (cap - 40)] w2 fun e w' => e = .returned (.agg #[.int .i64 (xs : Int), .int .i64 d0, .int .i64 d1, .int .i64 d2, .int .i64 d3, .int .i64 d4, .int .i64 d5, .int .i64 d6, .int .i64 d7, .int .i64 d8, .int .i64 d9, .int .i64 d10, .int .i64 d11, .int .i64 (xp : Int), .int .i64 (xq : Int)]) ∧ Below w2.heap.size w2 w' from HC9.out)
  have HCell := hide (show ∀ w2, Below W.heap.size W w2 → ∀ i, i < 128 → w2.cell? ⟨bd, off + i, none⟩ = some (.int .u8 (zs.getD i 0)) from fun w2 h2 i hi => ((h2.cell (p := ⟨bd, off + i, none⟩) (show bd < W.heap.size by omega)).trans (hb0.cell (p := ⟨bd, off + i, none⟩) hbw)).trans (hcell i (by rw [HZ0.out]; exact hi)))
  have hz0 := hbd (zs.getD 0 0) (by
    have h1 : 0 < zs.length := by omega
    simp [List.getD, h1])
  rw [← e0] at hz0
  have hc0 : ∀ w2, Below W.heap.size W w2 → w2.cell? ⟨bd, off, none⟩ = some (.int .u8 z0) := fun w2 h2 => by rw [e0]; exact HCell.out w2 h2 0 (by omega)
  have HC0 := hide hc0
  obtain ⟨hz1, hz2⟩ := hz0
  have hwz : IntKind.i64.wrap z0 = z0 := by
    simp only [IntKind.wrap, IntKind.bits, IntKind.signed]
    simp
    omega
  have hi4 : (4 : Int) ≤ (cap : Int) := by omega
  have hi6 : (6 : Int) ≤ (cap : Int) := by omega
  have hi8 : (8 : Int) ≤ (cap : Int) := by omega
  have hi10 : (10 : Int) ≤ (cap : Int) := by omega
  have hi16 : (16 : Int) ≤ (cap : Int) := by omega
  have hi24 : (24 : Int) ≤ (cap : Int) := by omega
  have hi32 : (32 : Int) ≤ (cap : Int) := by omega
  have hi40 : (40 : Int) ≤ (cap : Int) := by omega
  have hi104 : (104 : Int) ≤ (cap : Int) := by omega
  have hn2 : ¬ cap = 2 := by omega
  have hn4 : ¬ cap = 4 := by omega
  have hn6 : ¬ cap = 6 := by omega
  have hn8 : ¬ cap = 8 := by omega
  have hn12 : ¬ cap = 12 := by omega
  have hn16 : ¬ cap = 16 := by omega
  have hn24 : ¬ cap = 24 := by omega
  have hn32 : ¬ cap = 32 := by omega
  have hn40 : ¬ cap = 40 := by omega
  rw [hz]
  clear h hbd hz e0 e1 e2 e3 e4 e5 e6 e7 e8 es ew ep eq hbe hr hb RW hcell hcl hb0 hc0
  have HW := hide hW
  clear hW
  go_enter Tryd.func33, Tryd.ntmps33
  go_wp2
  rw [← HW.out]
  refine wp_region_noPanic ?_
  refine wp_region_held_drew (S := fun w' => Below W.heap.size W w') (by kernel_rfl) ((Below.refl _ _).drew) (fun hH => ?_)
  refine wpAnyH_take (i := 0) (oi := _) (v := (.slice (some ⟨bd, off, none⟩) 128 cap)) rfl (by kernel_rfl) (by kernel_rfl) (by kernel_rfl) (fun _ _ _ h => h) (Or.inl ⟨by rfl, fun w' hw' => by go_simp⟩) hH ?_
  try simp only [Act.put, List.setIfInBounds_toArray, List.set_cons_zero, List.set_cons_succ]
  refine wpAnyH_take (i := 1) (oi := _) (v := (.pointer (some ⟨bd, off, none⟩))) rfl (by kernel_rfl) (by kernel_rfl) (by kernel_rfl) (fun _ _ _ h => h) (Or.inl ⟨by rfl, fun w' hw' => by go_simp⟩) hH ?_
  try simp only [Act.put, List.setIfInBounds_toArray, List.set_cons_zero, List.set_cons_succ]
  refine wpAnyH_take (i := 2) (oi := _) (v := .int .u8 z0) rfl (by kernel_rfl) (by kernel_rfl) (by kernel_rfl) (fun _ _ _ h => h) (Or.inl ⟨by rfl, fun w' hw' => by have hc := HC0.out w' hw'; clear hw'; go_simp⟩) hH ?_
  try simp only [Act.put, List.setIfInBounds_toArray, List.set_cons_zero, List.set_cons_succ]
  refine wpAnyH_take (i := 3) (oi := _) (v := .int .i64 z0) rfl (by kernel_rfl) (by kernel_rfl) (by kernel_rfl) (fun _ _ _ h => h) (Or.inl ⟨by rfl, fun w' hw' => by go_simp⟩) hH ?_
  try simp only [Act.put, List.setIfInBounds_toArray, List.set_cons_zero, List.set_cons_succ]
  refine wpAnyH_take (i := 4) (oi := _) (v := (.slice (some ⟨bd, off, none⟩) 128 cap)) rfl (by kernel_rfl) (by kernel_rfl) (by kernel_rfl) (fun _ _ _ h => h) (Or.inl ⟨by rfl, fun w' hw' => by go_simp⟩) hH ?_
  try simp only [Act.put, List.setIfInBounds_toArray, List.set_cons_zero, List.set_cons_succ]
  refine wpAnyH_take (i := 5) (oi := _) (v := (.slice (some ⟨bd, off + 2, none⟩) 2 (cap - 2))) rfl (by kernel_rfl) (by kernel_rfl) (by kernel_rfl) (fun _ _ _ h => h) (Or.inl ⟨by rfl, fun w' hw' => by go_simp⟩) hH ?_
  try simp only [Act.put, List.setIfInBounds_toArray, List.set_cons_zero, List.set_cons_succ]
  refine wpAnyH_take (i := 7) (oi := _) (v := (.slice (some ⟨bd, off, none⟩) 128 cap)) rfl (by kernel_rfl) (by kernel_rfl) (by kernel_rfl) (fun _ _ _ h => h) (Or.inl ⟨by rfl, fun w' hw' => by go_simp⟩) hH ?_
  try simp only [Act.put, List.setIfInBounds_toArray, List.set_cons_zero, List.set_cons_succ]
  refine wpAnyH_take (i := 8) (oi := _) (v := (.slice (some ⟨bd, off + 4, none⟩) 2 (cap - 4))) rfl (by kernel_rfl) (by kernel_rfl) (by kernel_rfl) (fun _ _ _ h => h) (Or.inl ⟨by rfl, fun w' hw' => by go_simp⟩) hH ?_
  try simp only [Act.put, List.setIfInBounds_toArray, List.set_cons_zero, List.set_cons_succ]
  refine wpAnyH_take (i := 10) (oi := _) (v := (.slice (some ⟨bd, off, none⟩) 128 cap)) rfl (by kernel_rfl) (by kernel_rfl) (by kernel_rfl) (fun _ _ _ h => h) (Or.inl ⟨by rfl, fun w' hw' => by go_simp⟩) hH ?_
  try simp only [Act.put, List.setIfInBounds_toArray, List.set_cons_zero, List.set_cons_succ]
  refine wpAnyH_take (i := 11) (oi := _) (v := (.slice (some ⟨bd, off + 6, none⟩) 2 (cap - 6))) rfl (by kernel_rfl) (by kernel_rfl) (by kernel_rfl) (fun _ _ _ h => h) (Or.inl ⟨by rfl, fun w' hw' => by go_simp⟩) hH ?_
  try simp only [Act.put, List.setIfInBounds_toArray, List.set_cons_zero, List.set_cons_succ]
  refine wpAnyH_take (i := 13) (oi := _) (v := (.slice (some ⟨bd, off, none⟩) 128 cap)) rfl (by kernel_rfl) (by kernel_rfl) (by kernel_rfl) (fun _ _ _ h => h) (Or.inl ⟨by rfl, fun w' hw' => by go_simp⟩) hH ?_
  try simp only [Act.put, List.setIfInBounds_toArray, List.set_cons_zero, List.set_cons_succ]
  refine wpAnyH_take (i := 14) (oi := _) (v := (.slice (some ⟨bd, off + 8, none⟩) 2 (cap - 8))) rfl (by kernel_rfl) (by kernel_rfl) (by kernel_rfl) (fun _ _ _ h => h) (Or.inl ⟨by rfl, fun w' hw' => by go_simp⟩) hH ?_
  try simp only [Act.put, List.setIfInBounds_toArray, List.set_cons_zero, List.set_cons_succ]
  refine wpAnyH_take (i := 16) (oi := _) (v := (.slice (some ⟨bd, off, none⟩) 128 cap)) rfl (by kernel_rfl) (by kernel_rfl) (by kernel_rfl) (fun _ _ _ h => h) (Or.inl ⟨by rfl, fun w' hw' => by go_simp⟩) hH ?_
  try simp only [Act.put, List.setIfInBounds_toArray, List.set_cons_zero, List.set_cons_succ]
  refine wpAnyH_take (i := 17) (oi := _) (v := (.slice (some ⟨bd, off + 12, none⟩) 4 (cap - 12))) rfl (by kernel_rfl) (by kernel_rfl) (by kernel_rfl) (fun _ _ _ h => h) (Or.inl ⟨by rfl, fun w' hw' => by go_simp⟩) hH ?_
  try simp only [Act.put, List.setIfInBounds_toArray, List.set_cons_zero, List.set_cons_succ]
  refine wpAnyH_take (i := 19) (oi := _) (v := (.slice (some ⟨bd, off, none⟩) 128 cap)) rfl (by kernel_rfl) (by kernel_rfl) (by kernel_rfl) (fun _ _ _ h => h) (Or.inl ⟨by rfl, fun w' hw' => by go_simp⟩) hH ?_
  try simp only [Act.put, List.setIfInBounds_toArray, List.set_cons_zero, List.set_cons_succ]
  refine wpAnyH_take (i := 20) (oi := _) (v := (.slice (some ⟨bd, off + 16, none⟩) 8 (cap - 16))) rfl (by kernel_rfl) (by kernel_rfl) (by kernel_rfl) (fun _ _ _ h => h) (Or.inl ⟨by rfl, fun w' hw' => by go_simp⟩) hH ?_
  try simp only [Act.put, List.setIfInBounds_toArray, List.set_cons_zero, List.set_cons_succ]
  refine wpAnyH_take (i := 22) (oi := _) (v := (.slice (some ⟨bd, off, none⟩) 128 cap)) rfl (by kernel_rfl) (by kernel_rfl) (by kernel_rfl) (fun _ _ _ h => h) (Or.inl ⟨by rfl, fun w' hw' => by go_simp⟩) hH ?_
  try simp only [Act.put, List.setIfInBounds_toArray, List.set_cons_zero, List.set_cons_succ]
  refine wpAnyH_take (i := 23) (oi := _) (v := (.slice (some ⟨bd, off + 24, none⟩) 8 (cap - 24))) rfl (by kernel_rfl) (by kernel_rfl) (by kernel_rfl) (fun _ _ _ h => h) (Or.inl ⟨by rfl, fun w' hw' => by go_simp⟩) hH ?_
  try simp only [Act.put, List.setIfInBounds_toArray, List.set_cons_zero, List.set_cons_succ]
  refine wpAnyH_take (i := 25) (oi := _) (v := (.slice (some ⟨bd, off, none⟩) 128 cap)) rfl (by kernel_rfl) (by kernel_rfl) (by kernel_rfl) (fun _ _ _ h => h) (Or.inl ⟨by rfl, fun w' hw' => by go_simp⟩) hH ?_
  try simp only [Act.put, List.setIfInBounds_toArray, List.set_cons_zero, List.set_cons_succ]
  refine wpAnyH_take (i := 26) (oi := _) (v := (.slice (some ⟨bd, off + 32, none⟩) 8 (cap - 32))) rfl (by kernel_rfl) (by kernel_rfl) (by kernel_rfl) (fun _ _ _ h => h) (Or.inl ⟨by rfl, fun w' hw' => by go_simp⟩) hH ?_
  try simp only [Act.put, List.setIfInBounds_toArray, List.set_cons_zero, List.set_cons_succ]
  refine wpAnyH_take (i := 28) (oi := _) (v := (.slice (some ⟨bd, off, none⟩) 128 cap)) rfl (by kernel_rfl) (by kernel_rfl) (by kernel_rfl) (fun _ _ _ h => h) (Or.inl ⟨by rfl, fun w' hw' => by go_simp⟩) hH ?_
  try simp only [Act.put, List.setIfInBounds_toArray, List.set_cons_zero, List.set_cons_succ]
  refine wpAnyH_take (i := 29) (oi := _) (v := (.slice (some ⟨bd, off + 40, none⟩) 64 (cap - 40))) rfl (by kernel_rfl) (by kernel_rfl) (by kernel_rfl) (fun _ _ _ h => h) (Or.inl ⟨by rfl, fun w' hw' => by go_simp⟩) hH ?_
  try simp only [Act.put, List.setIfInBounds_toArray, List.set_cons_zero, List.set_cons_succ]
  clear hi4 hi6 hi8 hi10 hi16 hi24 hi32 hi40 hi104 hn2 hn4 hn6 hn8 hn12 hn16 hn24 hn32 hn40 HC0
  refine wpAnyH_ready (rs := [6, 32]) (by kernel_rfl) (by simp) ?_
  refine AllReadyH.cons (o := _) rfl (fun K hK => ?_) (AllReadyH.cons (o := _) rfl (fun K hK => ?_) AllReadyH.nil)
  · go_simp
    refine (HC1.out _ hH).mono ?_
    rintro e w1 ⟨rfl, rfl⟩
    refine hK.out _ _ hH (fun hH2 => ?_)
    clear hK K hH2
    try simp only [Act.put, List.setIfInBounds_toArray, List.set_cons_zero, List.set_cons_succ]
    refine wpAnyH_ready (rs := [9, 32]) (by kernel_rfl) (by simp) ?_
    refine AllReadyH.cons (o := _) rfl (fun K hK => ?_) (AllReadyH.cons (o := _) rfl (fun K hK => ?_) AllReadyH.nil)
    · go_simp
      refine (HC2.out _ hH).mono ?_
      rintro e w1 ⟨rfl, rfl⟩
      refine hK.out _ _ hH (fun hH2 => ?_)
      clear hK K hH2
      try simp only [Act.put, List.setIfInBounds_toArray, List.set_cons_zero, List.set_cons_succ]
      refine wpAnyH_ready (rs := [12, 32]) (by kernel_rfl) (by simp) ?_
      refine AllReadyH.cons (o := _) rfl (fun K hK => ?_) (AllReadyH.cons (o := _) rfl (fun K hK => ?_) AllReadyH.nil)
      · go_simp
        refine (HC3.out _ hH).mono ?_
        rintro e w1 ⟨rfl, rfl⟩
        refine hK.out _ _ hH (fun hH2 => ?_)
        clear hK K hH2
        try simp only [Act.put, List.setIfInBounds_toArray, List.set_cons_zero, List.set_cons_succ]
        refine wpAnyH_ready (rs := [15, 32]) (by kernel_rfl) (by simp) ?_
        refine AllReadyH.cons (o := _) rfl (fun K hK => ?_) (AllReadyH.cons (o := _) rfl (fun K hK => ?_) AllReadyH.nil)
        · go_simp
          refine (HC4.out _ hH).mono ?_
          rintro e w1 ⟨rfl, rfl⟩
          refine hK.out _ _ hH (fun hH2 => ?_)
          clear hK K hH2
          try simp only [Act.put, List.setIfInBounds_toArray, List.set_cons_zero, List.set_cons_succ]
          refine wpAnyH_ready (rs := [18, 32]) (by kernel_rfl) (by simp) ?_
          refine AllReadyH.cons (o := _) rfl (fun K hK => ?_) (AllReadyH.cons (o := _) rfl (fun K hK => ?_) AllReadyH.nil)
          · go_simp
            refine (HC5.out _ hH).mono ?_
            rintro e w1 ⟨rfl, rfl⟩
            refine hK.out _ _ hH (fun hH2 => ?_)
            clear hK K hH2
            try simp only [Act.put, List.setIfInBounds_toArray, List.set_cons_zero, List.set_cons_succ]
            refine wpAnyH_ready (rs := [21, 32]) (by kernel_rfl) (by simp) ?_
            refine AllReadyH.cons (o := _) rfl (fun K hK => ?_) (AllReadyH.cons (o := _) rfl (fun K hK => ?_) AllReadyH.nil)
            · go_simp
              refine (HC6.out _ hH).mono ?_
              rintro e w1 ⟨rfl, rfl⟩
              refine hK.out _ _ hH (fun hH2 => ?_)
              clear hK K hH2
              try simp only [Act.put, List.setIfInBounds_toArray, List.set_cons_zero, List.set_cons_succ]
              refine wpAnyH_ready (rs := [24, 32]) (by kernel_rfl) (by simp) ?_
              refine AllReadyH.cons (o := _) rfl (fun K hK => ?_) (AllReadyH.cons (o := _) rfl (fun K hK => ?_) AllReadyH.nil)
              · go_simp
                refine (HC7.out _ hH).mono ?_
                rintro e w1 ⟨rfl, rfl⟩
                refine hK.out _ _ hH (fun hH2 => ?_)
                clear hK K hH2
                try simp only [Act.put, List.setIfInBounds_toArray, List.set_cons_zero, List.set_cons_succ]
                refine wpAnyH_ready (rs := [27, 32]) (by kernel_rfl) (by simp) ?_
                refine AllReadyH.cons (o := _) rfl (fun K hK => ?_) (AllReadyH.cons (o := _) rfl (fun K hK => ?_) AllReadyH.nil)
                · go_simp
                  refine (HC8.out _ hH).mono ?_
                  rintro e w1 ⟨rfl, rfl⟩
                  refine hK.out _ _ hH (fun hH2 => ?_)
                  clear hK K hH2
                  try simp only [Act.put, List.setIfInBounds_toArray, List.set_cons_zero, List.set_cons_succ]
                  refine wpAnyH_ready (rs := [30, 32]) (by kernel_rfl) (by simp) ?_
                  refine AllReadyH.cons (o := _) rfl (fun K hK => ?_) (AllReadyH.cons (o := _) rfl (fun K hK => ?_) AllReadyH.nil)
                  · go_simp
                    refine (HC9.out _ hH).mono ?_
                    rintro e w2 ⟨rfl, b2⟩
                    have hH2 : Below W.heap.size W w2 := held_next hH b2
                    have hsz2 : W.heap.size ≤ w2.heap.size := hH2.size
                    refine hK.out _ _ hH2 (fun hH3 => ?_)
                    clear hK K hH b2 hH3
                    try simp only [Act.put, List.setIfInBounds_toArray, List.set_cons_zero, List.set_cons_succ]
                    refine wpAnyH_take (i := 31) (oi := _) (v := .agg #[.int .i64 z0, .int .i64 (x1 : Int), .int .i64 (x2 : Int), .int .i64 (x3 : Int), .int .i64 (x4 : Int), .int .i64 (x5 : Int), .int .i64 (x6 : Int), .int .i64 (x7 : Int), .int .i64 (x8 : Int), .int .i64 (xs : Int), .int .i64 d0, .int .i64 d1, .int .i64 d2, .int .i64 d3, .int .i64 d4, .int .i64 d5, .int .i64 d6, .int .i64 d7, .int .i64 d8, .int .i64 d9, .int .i64 d10, .int .i64 d11, .int .i64 (xp : Int), .int .i64 (xq : Int)]) rfl (by kernel_rfl) (by kernel_rfl) (by kernel_rfl) (fun _ _ _ h => h) (Or.inl ⟨by rfl, fun w' hw' => by go_simp⟩) hH2 ?_
                    try simp only [Act.put, List.setIfInBounds_toArray, List.set_cons_zero, List.set_cons_succ]
                    refine wpAnyH_ready (rs := [32]) (by kernel_rfl) (by simp) ?_
                    refine AllReadyH.cons (o := _) rfl (fun K hK => ?_) AllReadyH.nil
                    go_simp
                    refine hK.out _ _ (held_alloc hH2 _) (fun hH3 => ?_)
                    clear hK K hH2
                    try simp only [Act.put, List.setIfInBounds_toArray, List.set_cons_zero, List.set_cons_succ]
                    refine wpAnyH_ready (rs := [33]) (by kernel_rfl) (by simp) ?_
                    refine AllReadyH.cons (o := _) rfl (fun K hK => ?_) AllReadyH.nil
                    rw [if_pos (by rfl)]
                    refine wp_store_row 44 _ _ rfl w2.heap.size (cellsI (inoI [z0, (x1 : Int), (x2 : Int), (x3 : Int), (x4 : Int), (x5 : Int), (x6 : Int), (x7 : Int), (x8 : Int)] (xs : Int) [d0, d1, d2, d3, d4, d5, d6, d7, d8, d9, d10, d11] (xp : Int) (xq : Int))) rfl rfl 44 _ (Blk.new w2 #[.int .i64 0, .int .i64 0, .int .i64 0, .int .i64 0, .int .i64 0, .int .i64 0, .int .i64 0, .int .i64 0, .int .i64 0, .int .i64 0, .int .i64 0, .int .i64 0, .int .i64 0, .int .i64 0, .int .i64 0, .int .i64 0, .int .i64 0, .int .i64 0, .int .i64 0, .int .i64 0, .int .i64 0, .int .i64 0, .int .i64 0, .int .i64 0] 44) info24 rfl (cellsI_one _) ?_
                    have hH4 : Below W.heap.size W ((w2.alloc (.cells #[.int .i64 0, .int .i64 0, .int .i64 0, .int .i64 0, .int .i64 0, .int .i64 0, .int .i64 0, .int .i64 0, .int .i64 0, .int .i64 0, .int .i64 0, .int .i64 0, .int .i64 0, .int .i64 0, .int .i64 0, .int .i64 0, .int .i64 0, .int .i64 0, .int .i64 0, .int .i64 0, .int .i64 0, .int .i64 0, .int .i64 0, .int .i64 0] 44)).setRow w2.heap.size (cellsI (inoI [z0, (x1 : Int), (x2 : Int), (x3 : Int), (x4 : Int), (x5 : Int), (x6 : Int), (x7 : Int), (x8 : Int)] (xs : Int) [d0, d1, d2, d3, d4, d5, d6, d7, d8, d9, d10, d11] (xp : Int) (xq : Int)))) := below_setRow hH3 (by first | exact Nat.le_refl _ | exact hsz2) _
                    have KQ4 := hide (show Blk ((w2.alloc (.cells #[.int .i64 0, .int .i64 0, .int .i64 0, .int .i64 0, .int .i64 0, .int .i64 0, .int .i64 0, .int .i64 0, .int .i64 0, .int .i64 0, .int .i64 0, .int .i64 0, .int .i64 0, .int .i64 0, .int .i64 0, .int .i64 0, .int .i64 0, .int .i64 0, .int .i64 0, .int .i64 0, .int .i64 0, .int .i64 0, .int .i64 0, .int .i64 0] 44)).setRow w2.heap.size (cellsI (inoI [z0, (x1 : Int), (x2 : Int), (x3 : Int), (x4 : Int), (x5 : Int), (x6 : Int), (x7 : Int), (x8 : Int)] (xs : Int) [d0, d1, d2, d3, d4, d5, d6, d7, d8, d9, d10, d11] (xp : Int) (xq : Int)))) w2.heap.size (cellsI (inoI [z0, (x1 : Int), (x2 : Int), (x3 : Int), (x4 : Int), (x5 : Int), (x6 : Int), (x7 : Int), (x8 : Int)] (xs : Int) [d0, d1, d2, d3, d4, d5, d6, d7, d8, d9, d10, d11] (xp : Int) (xq : Int))) 44 from ((Blk.new w2 #[.int .i64 0, .int .i64 0, .int .i64 0, .int .i64 0, .int .i64 0, .int .i64 0, .int .i64 0, .int .i64 0, .int .i64 0, .int .i64 0, .int .i64 0, .int .i64 0, .int .i64 0, .int .i64 0, .int .i64 0, .int .i64 0, .int .i64 0, .int .i64 0, .int .i64 0, .int .i64 0, .int .i64 0, .int .i64 0, .int .i64 0, .int .i64 0] 44)).row _)
                    refine hK.out _ _ hH4 (fun hH5 => ?_)
                    clear hK K hH5
                    try simp only [Act.put, List.setIfInBounds_toArray, List.set_cons_zero, List.set_cons_succ]
                    refine wpAnyH_done (by kernel_rfl) (NoPanic.normal ?_) _
                    have HB4 := hide hH4
                    generalize hW4 : (w2.alloc (.cells #[.int .i64 0, .int .i64 0, .int .i64 0, .int .i64 0, .int .i64 0, .int .i64 0, .int .i64 0, .int .i64 0, .int .i64 0, .int .i64 0, .int .i64 0, .int .i64 0, .int .i64 0, .int .i64 0, .int .i64 0, .int .i64 0, .int .i64 0, .int .i64 0, .int .i64 0, .int .i64 0, .int .i64 0, .int .i64 0, .int .i64 0, .int .i64 0] 44)).setRow w2.heap.size (cellsI (inoI [z0, (x1 : Int), (x2 : Int), (x3 : Int), (x4 : Int), (x5 : Int), (x6 : Int), (x7 : Int), (x8 : Int)] (xs : Int) [d0, d1, d2, d3, d4, d5, d6, d7, d8, d9, d10, d11] (xp : Int) (xq : Int))) = w4 at HB4 KQ4 ⊢
                    clear hW4 hH4 hH3
                    generalize w2.heap.size = gg at KQ4 ⊢
                    have KN4 := hide (show Blk w4 w.heap.size (cellsI noIno) 44 from KB0.out.below HB4.out hlw)
                    have B4 := hide (HB0.out.trans (HB4.out.mono HB0.out.size))
                    go_wp2_with (first | (refine wpList_load_row rfl 44 _ rfl gg rfl 44 (cellsI (inoI [z0, (x1 : Int), (x2 : Int), (x3 : Int), (x4 : Int), (x5 : Int), (x6 : Int), (x7 : Int), (x8 : Int)] (xs : Int) [d0, d1, d2, d3, d4, d5, d6, d7, d8, d9, d10, d11] (xp : Int) (xq : Int))) (0, 0) _ KQ4.out Tryd.underlying44 rfl info24 ?_) | (go_at_call 56; fail))
                    refine (specI_any z0 (x1 : Int) (x2 : Int) (x3 : Int) (x4 : Int) (x5 : Int) (x6 : Int) (x7 : Int) (x8 : Int) (xs : Int) [d0, d1, d2, d3, d4, d5, d6, d7, d8, d9, d10, d11] (xp : Int) (xq : Int) _ rfl).mono ?_
                    rintro e w5 ⟨v5, rfl, o5, b5⟩
                    have K5 := hide (And.intro (KQ4.out.below b5 KQ4.out.lt) (And.intro (KN4.out.below b5 KN4.out.lt) (And.intro (B4.out.trans (b5.mono B4.out.size)) (HB4.out.trans (b5.mono HB4.out.size)))))
                    have O5 := hide o5
                    clear b5 o5 KN4 B4 KQ4 HB4
                    cases r with
                    | false =>
                      have hc : codeI z0 (x1 : Int) (x2 : Int) (x3 : Int) (x4 : Int) (x5 : Int) (x6 : Int) (x7 : Int) (x8 : Int) (xs : Int) [d0, d1, d2, d3, d4, d5, d6, d7, d8, d9, d10, d11] (xp : Int) (xq : Int) = 7 := by unfold codeI; rw [HRB.out.1]; rfl
                      rw [hc]
                      go_wp2_with (refine wpList_store_row rfl 44 _ _ rfl w.heap.size #[.int .i64 0, .int .i64 0, .int .i64 0, .int .i64 0, .int .i64 0, .int .i64 0, .int .i64 0, .int .i64 0, .int .i64 0, .int .i64 0, .int .i64 0, .int .i64 0, .int .i64 0, .int .i64 0, .int .i64 0, .int .i64 0, .int .i64 0, .int .i64 0, .int .i64 0, .int .i64 0, .int .i64 0, .int .i64 0, .int .i64 0, .int .i64 0] rfl rfl 44 _ K5.out.2.1 info24 rfl (cellsI_one noIno) ?_)
                      refine bodyPost_ret (v := .tuple #[.agg (cellsI noIno), .int .i64 21]) ?_ rfl ⟨rfl, below_setRow K5.out.2.2.1 (Nat.le_refl _) _⟩
                      exact results_row_tmp rfl _ _ w.heap.size 44 (cellsI noIno) (0, 0) _ _ rfl rfl (K5.out.2.1.row _) Tryd.underlying44 rfl info24
                    | true =>
                      have hc : codeI z0 (x1 : Int) (x2 : Int) (x3 : Int) (x4 : Int) (x5 : Int) (x6 : Int) (x7 : Int) (x8 : Int) (xs : Int) [d0, d1, d2, d3, d4, d5, d6, d7, d8, d9, d10, d11] (xp : Int) (xq : Int) = 0 := by unfold codeI; rw [HRB.out.1]; rfl
                      have hl : (encI z0 (x1 : Int) (x2 : Int) (x3 : Int) (x4 : Int) (x5 : Int) (x6 : Int) (x7 : Int) (x8 : Int) (xs : Int) [d0, d1, d2, d3, d4, d5, d6, d7, d8, d9, d10, d11] (xp : Int) (xq : Int)).length = 128 := by unfold encI; rw [if_pos HRB.out.1]; exact bytesIno_len _ _ _ _ _ _ _ _ _ _ _ _ _ rfl
                      rw [hc]
                      have o5 := O5.out
                      obtain ⟨g5, of5, cp5, rfl, hg5, _, _, hcell5⟩ := (Rd.own o5).partsC (by rw [hl]; omega)
                      have v1 := run_convert_bytes_arg (P := Tryd.prog) w5 24 5 Tryd.underlying24 Tryd.underlying5 bd off 128 cap zs HZ0.out (HCell.out w5 K5.out.2.2.2) 9 Tryd.underlying9
                      have v2 := run_convert_bytes_arg (P := Tryd.prog) w5 24 5 Tryd.underlying24 Tryd.underlying5 g5 of5 (encI z0 (x1 : Int) (x2 : Int) (x3 : Int) (x4 : Int) (x5 : Int) (x6 : Int) (x7 : Int) (x8 : Int) (xs : Int) [d0, d1, d2, d3, d4, d5, d6, d7, d8, d9, d10, d11] (xp : Int) (xq : Int)).length cp5 (encI z0 (x1 : Int) (x2 : Int) (x3 : Int) (x4 : Int) (x5 : Int) (x6 : Int) (x7 : Int) (x8 : Int) (xs : Int) [d0, d1, d2, d3, d4, d5, d6, d7, d8, d9, d10, d11] (xp : Int) (xq : Int)) rfl hcell5 9 Tryd.underlying9
                      cases b with
                      | true =>
                        have he : (encI z0 (x1 : Int) (x2 : Int) (x3 : Int) (x4 : Int) (x5 : Int) (x6 : Int) (x7 : Int) (x8 : Int) (xs : Int) [d0, d1, d2, d3, d4, d5, d6, d7, d8, d9, d10, d11] (xp : Int) (xq : Int)) = zs := by simpa using HRB.out.2.1
                        rw [he] at v2 ⊢
                        rw [HZ0.out] at v2 ⊢
                        generalize strOfNums zs = S at v1 v2
                        clear hcell5 o5 he hc hl
                        go_wp2_with (first | (refine wpList_load_row rfl 44 _ rfl gg rfl 44 (cellsI (inoI [z0, (x1 : Int), (x2 : Int), (x3 : Int), (x4 : Int), (x5 : Int), (x6 : Int), (x7 : Int), (x8 : Int)] (xs : Int) [d0, d1, d2, d3, d4, d5, d6, d7, d8, d9, d10, d11] (xp : Int) (xq : Int))) (0, 0) _ K5.out.1 Tryd.underlying44 rfl info24 ?_) | (refine wpList_store_row rfl 44 _ _ rfl w.heap.size (cellsI (inoI [z0, (x1 : Int), (x2 : Int), (x3 : Int), (x4 : Int), (x5 : Int), (x6 : Int), (x7 : Int), (x8 : Int)] (xs : Int) [d0, d1, d2, d3, d4, d5, d6, d7, d8, d9, d10, d11] (xp : Int) (xq : Int))) rfl rfl 44 _ K5.out.2.1 info24 rfl (cellsI_one _) ?_))
                        refine bodyPost_ret (v := .tuple #[.agg (cellsI (inoI [z0, (x1 : Int), (x2 : Int), (x3 : Int), (x4 : Int), (x5 : Int), (x6 : Int), (x7 : Int), (x8 : Int)] (xs : Int) [d0, d1, d2, d3, d4, d5, d6, d7, d8, d9, d10, d11] (xp : Int) (xq : Int))), .int .i64 0]) ?_ rfl ⟨rfl, below_setRow K5.out.2.2.1 (Nat.le_refl _) _⟩
                        exact results_row_tmp rfl _ _ w.heap.size 44 (cellsI (inoI [z0, (x1 : Int), (x2 : Int), (x3 : Int), (x4 : Int), (x5 : Int), (x6 : Int), (x7 : Int), (x8 : Int)] (xs : Int) [d0, d1, d2, d3, d4, d5, d6, d7, d8, d9, d10, d11] (xp : Int) (xq : Int))) (0, 0) _ _ rfl rfl (K5.out.2.1.row _) Tryd.underlying44 rfl info24
                      | false =>
                        have hne : ¬ (strOfNums (encI z0 (x1 : Int) (x2 : Int) (x3 : Int) (x4 : Int) (x5 : Int) (x6 : Int) (x7 : Int) (x8 : Int) (xs : Int) [d0, d1, d2, d3, d4, d5, d6, d7, d8, d9, d10, d11] (xp : Int) (xq : Int))).toList = (strOfNums zs).toList := fun h => by
                          have h1 := strOf_inj HRB.out.2.2.1 HRB.out.2.2.2 h
                          have h2 := HRB.out.2.1
                          rw [decide_eq_true h1] at h2
                          cases h2
                        rw [hl] at v2 ⊢
                        generalize strOfNums zs = S1 at v1 hne
                        generalize strOfNums (encI z0 (x1 : Int) (x2 : Int) (x3 : Int) (x4 : Int) (x5 : Int) (x6 : Int) (x7 : Int) (x8 : Int) (xs : Int) [d0, d1, d2, d3, d4, d5, d6, d7, d8, d9, d10, d11] (xp : Int) (xq : Int)) = S2 at v2 hne
                        have hne1 : (S2.toList == S1.toList) = false := by simpa using hne
                        clear hne
                        clear hcell5 o5 hc hl
                        go_wp2_with (refine wpList_store_row rfl 44 _ _ rfl w.heap.size #[.int .i64 0, .int .i64 0, .int .i64 0, .int .i64 0, .int .i64 0, .int .i64 0, .int .i64 0, .int .i64 0, .int .i64 0, .int .i64 0, .int .i64 0, .int .i64 0, .int .i64 0, .int .i64 0, .int .i64 0, .int .i64 0, .int .i64 0, .int .i64 0, .int .i64 0, .int .i64 0, .int .i64 0, .int .i64 0, .int .i64 0, .int .i64 0] rfl rfl 44 _ K5.out.2.1 info24 rfl (cellsI_one noIno) ?_)
                        refine bodyPost_ret (v := .tuple #[.agg (cellsI noIno), .int .i64 21]) ?_ rfl ⟨rfl, below_setRow K5.out.2.2.1 (Nat.le_refl _) _⟩
                        exact results_row_tmp rfl _ _ w.heap.size 44 (cellsI noIno) (0, 0) _ _ rfl rfl (K5.out.2.1.row _) Tryd.underlying44 rfl info24
                  · go_simp
                    have hH6 := held_alloc hH (.cells #[.int .i64 0, .int .i64 0, .int .i64 0, .int .i64 0, .int .i64 0, .int .i64 0, .int .i64 0, .int .i64 0, .int .i64 0, .int .i64 0, .int .i64 0, .int .i64 0, .int .i64 0, .int .i64 0, .int .i64 0, .int .i64 0, .int .i64 0, .int .i64 0, .int .i64 0, .int .i64 0, .int .i64 0, .int .i64 0, .int .i64 0, .int .i64 0] 44)
                    refine hK.out _ _ hH6 (fun hH7 => ?_)
                    clear hK K hH hH7
                    have hH := hH6
                    clear hH6
                    try simp only [Act.put, List.setIfInBounds_toArray, List.set_cons_zero, List.set_cons_succ]
                    refine wpAnyH_ready (rs := [30]) (by kernel_rfl) (by simp) ?_
                    refine AllReadyH.cons (o := _) rfl (fun K hK => ?_) AllReadyH.nil
                    go_simp
                    refine (HC9.out _ hH).mono ?_
                    rintro e w2 ⟨rfl, b2⟩
                    have KG := hide (show Blk w2 W.heap.size (cellsI noIno) 44 from Blk.below (Blk.new W.drew #[.int .i64 0, .int .i64 0, .int .i64 0, .int .i64 0, .int .i64 0, .int .i64 0, .int .i64 0, .int .i64 0, .int .i64 0, .int .i64 0, .int .i64 0, .int .i64 0, .int .i64 0, .int .i64 0, .int .i64 0, .int .i64 0, .int .i64 0, .int .i64 0, .int .i64 0, .int .i64 0, .int .i64 0, .int .i64 0, .int .i64 0, .int .i64 0] 44) b2 (by show W.heap.size < (W.drew.alloc _).heap.size; simp))
                    have hH2 : Below W.heap.size W w2 := held_next hH b2
                    refine hK.out _ _ hH2 (fun hH3 => ?_)
                    clear hK K hH b2 hH3
                    try simp only [Act.put, List.setIfInBounds_toArray, List.set_cons_zero, List.set_cons_succ]
                    refine wpAnyH_take (i := 31) (oi := _) (v := .agg #[.int .i64 z0, .int .i64 (x1 : Int), .int .i64 (x2 : Int), .int .i64 (x3 : Int), .int .i64 (x4 : Int), .int .i64 (x5 : Int), .int .i64 (x6 : Int), .int .i64 (x7 : Int), .int .i64 (x8 : Int), .int .i64 (xs : Int), .int .i64 d0, .int .i64 d1, .int .i64 d2, .int .i64 d3, .int .i64 d4, .int .i64 d5, .int .i64 d6, .int .i64 d7, .int .i64 d8, .int .i64 d9, .int .i64 d10, .int .i64 d11, .int .i64 (xp : Int), .int .i64 (xq : Int)]) rfl (by kernel_rfl) (by kernel_rfl) (by kernel_rfl) (fun _ _ _ h => h) (Or.inl ⟨by rfl, fun w' hw' => by go_simp⟩) hH2 ?_
                    try simp only [Act.put, List.setIfInBounds_toArray, List.set_cons_zero, List.set_cons_succ]
                    refine wpAnyH_ready (rs := [33]) (by kernel_rfl) (by simp) ?_
                    refine AllReadyH.cons (o := _) rfl (fun K hK => ?_) AllReadyH.nil
                    rw [if_pos (by rfl)]
                    refine wp_store_row 44 _ _ rfl W.heap.size (cellsI (inoI [z0, (x1 : Int), (x2 : Int), (x3 : Int), (x4 : Int), (x5 : Int), (x6 : Int), (x7 : Int), (x8 : Int)] (xs : Int) [d0, d1, d2, d3, d4, d5, d6, d7, d8, d9, d10, d11] (xp : Int) (xq : Int))) rfl rfl 44 _ KG.out info24 rfl (cellsI_one _) ?_
                    have hH4 : Below W.heap.size W (w2.setRow W.heap.size (cellsI (inoI [z0, (x1 : Int), (x2 : Int), (x3 : Int), (x4 : Int), (x5 : Int), (x6 : Int), (x7 : Int), (x8 : Int)] (xs : Int) [d0, d1, d2, d3, d4, d5, d6, d7, d8, d9, d10, d11] (xp : Int) (xq : Int)))) := below_setRow hH2 (by first | exact Nat.le_refl _ | exact Nat.le_refl _) _
                    have KQ4 := hide (show Blk (w2.setRow W.heap.size (cellsI (inoI [z0, (x1 : Int), (x2 : Int), (x3 : Int), (x4 : Int), (x5 : Int), (x6 : Int), (x7 : Int), (x8 : Int)] (xs : Int) [d0, d1, d2, d3, d4, d5, d6, d7, d8, d9, d10, d11] (xp : Int) (xq : Int)))) W.heap.size (cellsI (inoI [z0, (x1 : Int), (x2 : Int), (x3 : Int), (x4 : Int), (x5 : Int), (x6 : Int), (x7 : Int), (x8 : Int)] (xs : Int) [d0, d1, d2, d3, d4, d5, d6, d7, d8, d9, d10, d11] (xp : Int) (xq : Int))) 44 from (KG.out).row _)
                    refine hK.out _ _ hH4 (fun hH5 => ?_)
                    clear hK K hH5
                    try simp only [Act.put, List.setIfInBounds_toArray, List.set_cons_zero, List.set_cons_succ]
                    refine wpAnyH_done (by kernel_rfl) (NoPanic.normal ?_) _
                    have HB4 := hide hH4
                    generalize hW4 : w2.setRow W.heap.size (cellsI (inoI [z0, (x1 : Int), (x2 : Int), (x3 : Int), (x4 : Int), (x5 : Int), (x6 : Int), (x7 : Int), (x8 : Int)] (xs : Int) [d0, d1, d2, d3, d4, d5, d6, d7, d8, d9, d10, d11] (xp : Int) (xq : Int))) = w4 at HB4 KQ4 ⊢
                    clear hW4 hH4 hH2
                    generalize W.heap.size = gg at KQ4 ⊢
                    have KN4 := hide (show Blk w4 w.heap.size (cellsI noIno) 44 from KB0.out.below HB4.out hlw)
                    have B4 := hide (HB0.out.trans (HB4.out.mono HB0.out.size))
                    go_wp2_with (first | (refine wpList_load_row rfl 44 _ rfl gg rfl 44 (cellsI (inoI [z0, (x1 : Int), (x2 : Int), (x3 : Int), (x4 : Int), (x5 : Int), (x6 : Int), (x7 : Int), (x8 : Int)] (xs : Int) [d0, d1, d2, d3, d4, d5, d6, d7, d8, d9, d10, d11] (xp : Int) (xq : Int))) (0, 0) _ KQ4.out Tryd.underlying44 rfl info24 ?_) | (go_at_call 56; fail))
                    refine (specI_any z0 (x1 : Int) (x2 : Int) (x3 : Int) (x4 : Int) (x5 : Int) (x6 : Int) (x7 : Int) (x8 : Int) (xs : Int) [d0, d1, d2, d3, d4, d5, d6, d7, d8, d9, d10, d11] (xp : Int) (xq : Int) _ rfl).mono ?_
                    rintro e w5 ⟨v5, rfl, o5, b5⟩
                    have K5 := hide (And.intro (KQ4.out.below b5 KQ4.out.lt) (And.intro (KN4.out.below b5 KN4.out.lt) (And.intro (B4.out.trans (b5.mono B4.out.size)) (HB4.out.trans (b5.mono HB4.out.size)))))
                    have O5 := hide o5
                    clear b5 o5 KN4 B4 KQ4 HB4
                    cases r with
                    | false =>
                      have hc : codeI z0 (x1 : Int) (x2 : Int) (x3 : Int) (x4 : Int) (x5 : Int) (x6 : Int) (x7 : Int) (x8 : Int) (xs : Int) [d0, d1, d2, d3, d4, d5, d6, d7, d8, d9, d10, d11] (xp : Int) (xq : Int) = 7 := by unfold codeI; rw [HRB.out.1]; rfl
                      rw [hc]
                      go_wp2_with (refine wpList_store_row rfl 44 _ _ rfl w.heap.size #[.int .i64 0, .int .i64 0, .int .i64 0, .int .i64 0, .int .i64 0, .int .i64 0, .int .i64 0, .int .i64 0, .int .i64 0, .int .i64 0, .int .i64 0, .int .i64 0, .int .i64 0, .int .i64 0, .int .i64 0, .int .i64 0, .int .i64 0, .int .i64 0, .int .i64 0, .int .i64 0, .int .i64 0, .int .i64 0, .int .i64 0, .int .i64 0] rfl rfl 44 _ K5.out.2.1 info24 rfl (cellsI_one noIno) ?_)
                      refine bodyPost_ret (v := .tuple #[.agg (cellsI noIno), .int .i64 21]) ?_ rfl ⟨rfl, below_setRow K5.out.2.2.1 (Nat.le_refl _) _⟩
                      exact results_row_tmp rfl _ _ w.heap.size 44 (cellsI noIno) (0, 0) _ _ rfl rfl (K5.out.2.1.row _) Tryd.underlying44 rfl info24
                    | true =>
                      have hc : codeI z0 (x1 : Int) (x2 : Int) (x3 : Int) (x4 : Int) (x5 : Int) (x6 : Int) (x7 : Int) (x8 : Int) (xs : Int) [d0, d1, d2, d3, d4, d5, d6, d7, d8, d9, d10, d11] (xp : Int) (xq : Int) = 0 := by unfold codeI; rw [HRB.out.1]; rfl
                      have hl : (encI z0 (x1 : Int) (x2 : Int) (x3 : Int) (x4 : Int) (x5 : Int) (x6 : Int) (x7 : Int) (x8 : Int) (xs : Int) [d0, d1, d2, d3, d4, d5, d6, d7, d8, d9, d10, d11] (xp : Int) (xq : Int)).length = 128 := by unfold encI; rw [if_pos HRB.out.1]; exact bytesIno_len _ _ _ _ _ _ _ _ _ _ _ _ _ rfl
                      rw [hc]
                      have o5 := O5.out
                      obtain ⟨g5, of5, cp5, rfl, hg5, _, _, hcell5⟩ := (Rd.own o5).partsC (by rw [hl]; omega)
                      have v1 := run_convert_bytes_arg (P := Tryd.prog) w5 24 5 Tryd.underlying24 Tryd.underlying5 bd off 128 cap zs HZ0.out (HCell.out w5 K5.out.2.2.2) 9 Tryd.underlying9
                      have v2 := run_convert_bytes_arg (P := Tryd.prog) w5 24 5 Tryd.underlying24 Tryd.underlying5 g5 of5 (encI z0 (x1 : Int) (x2 : Int) (x3 : Int) (x4 : Int) (x5 : Int) (x6 : Int) (x7 : Int) (x8 : Int) (xs : Int) [d0, d1, d2, d3, d4, d5, d6, d7, d8, d9, d10, d11] (xp : Int) (xq : Int)).length cp5 (encI z0 (x1 : Int) (x2 : Int) (x3 : Int) (x4 : Int) (x5 : Int) (x6 : Int) (x7 : Int) (x8 : Int) (xs : Int) [d0, d1, d2, d3, d4, d5, d6, d7, d8, d9, d10, d11] (xp : Int) (xq : Int)) rfl hcell5 9 Tryd.underlying9
                      cases b with
                      | true =>
                        have he : (encI z0 (x1 : Int) (x2 : Int) (x3 : Int) (x4 : Int) (x5 : Int) (x6 : Int) (x7 : Int) (x8 : Int) (xs : Int) [d0, d1, d2, d3, d4, d5, d6, d7, d8, d9, d10, d11] (xp : Int) (xq : Int)) = zs := by simpa using HRB.out.2.1
                        rw [he] at v2 ⊢
                        rw [HZ0.out] at v2 ⊢
                        generalize strOfNums zs = S at v1 v2
                        clear hcell5 o5 he hc hl
                        go_wp2_with (first | (refine wpList_load_row rfl 44 _ rfl gg rfl 44 (cellsI (inoI [z0, (x1 : Int), (x2 : Int), (x3 : Int), (x4 : Int), (x5 : Int), (x6 : Int), (x7 : Int), (x8 : Int)] (xs : Int) [d0, d1, d2, d3, d4, d5, d6, d7, d8, d9, d10, d11] (xp : Int) (xq : Int))) (0, 0) _ K5.out.1 Tryd.underlying44 rfl info24 ?_) | (refine wpList_store_row rfl 44 _ _ rfl w.heap.size (cellsI (inoI [z0, (x1 : Int), (x2 : Int), (x3 : Int), (x4 : Int), (x5 : Int), (x6 : Int), (x7 : Int), (x8 : Int)] (xs : Int) [d0, d1, d2, d3, d4, d5, d6, d7, d8, d9, d10, d11] (xp : Int) (xq : Int))) rfl rfl 44 _ K5.out.2.1 info24 rfl (cellsI_one _) ?_))
                        refine bodyPost_ret (v := .tuple #[.agg (cellsI (inoI [z0, (x1 : Int), (x2 : Int), (x3 : Int), (x4 : Int), (x5 : Int), (x6 : Int), (x7 : Int), (x8 : Int)] (xs : Int) [d0, d1, d2, d3, d4, d5, d6, d7, d8, d9, d10, d11] (xp : Int) (xq : Int))), .int .i64 0]) ?_ rfl ⟨rfl, below_setRow K5.out.2.2.1 (Nat.le_refl _) _⟩
                        exact results_row_tmp rfl _ _ w.heap.size 44 (cellsI (inoI [z0, (x1 : Int), (x2 : Int), (x3 : Int), (x4 : Int), (x5 : Int), (x6 : Int), (x7 : Int), (x8 : Int)] (xs : Int) [d0, d1, d2, d3, d4, d5, d6, d7, d8, d9, d10, d11] (xp : Int) (xq : Int))) (0, 0) _ _ rfl rfl (K5.out.2.1.row _) Tryd.underlying44 rfl info24
                      | false =>
                        have hne : ¬ (strOfNums (encI z0 (x1 : Int) (x2 : Int) (x3 : Int) (x4 : Int) (x5 : Int) (x6 : Int) (x7 : Int) (x8 : Int) (xs : Int) [d0, d1, d2, d3, d4, d5, d6, d7, d8, d9, d10, d11] (xp : Int) (xq : Int))).toList = (strOfNums zs).toList := fun h => by
                          have h1 := strOf_inj HRB.out.2.2.1 HRB.out.2.2.2 h
                          have h2 := HRB.out.2.1
                          rw [decide_eq_true h1] at h2
                          cases h2
                        rw [hl] at v2 ⊢
                        generalize strOfNums zs = S1 at v1 hne
                        generalize strOfNums (encI z0 (x1 : Int) (x2 : Int) (x3 : Int) (x4 : Int) (x5 : Int) (x6 : Int) (x7 : Int) (x8 : Int) (xs : Int) [d0, d1, d2, d3, d4, d5, d6, d7, d8, d9, d10, d11] (xp : Int) (xq : Int)) = S2 at v2 hne
                        have hne1 : (S2.toList == S1.toList) = false := by simpa using hne
                        clear hne
                        clear hcell5 o5 hc hl
                        go_wp2_with (refine wpList_store_row rfl 44 _ _ rfl w.heap.size #[.int .i64 0, .int .i64 0, .int .i64 0, .int .i64 0, .int .i64 0, .int .i64 0, .int .i64 0, .int .i64 0, .int .i64 0, .int .i64 0, .int .i64 0, .int .i64 0, .int .i64 0, .int .i64 0, .int .i64 0, .int .i64 0, .int .i64 0, .int .i64 0, .int .i64 0, .int .i64 0, .int .i64 0, .int .i64 0, .int .i64 0, .int .i64 0] rfl rfl 44 _ K5.out.2.1 info24 rfl (cellsI_one noIno) ?_)
                        refine bodyPost_ret (v := .tuple #[.agg (cellsI noIno), .int .i64 21]) ?_ rfl ⟨rfl, below_setRow K5.out.2.2.1 (Nat.le_refl _) _⟩
                        exact results_row_tmp rfl _ _ w.heap.size 44 (cellsI noIno) (0, 0) _ _ rfl rfl (K5.out.2.1.row _) Tryd.underlying44 rfl info24
                · go_simp
                  have hH6 := held_alloc hH (.cells #[.int .i64 0, .int .i64 0, .int .i64 0, .int .i64 0, .int .i64 0, .int .i64 0, .int .i64 0, .int .i64 0, .int .i64 0, .int .i64 0, .int .i64 0, .int .i64 0, .int .i64 0, .int .i64 0, .int .i64 0, .int .i64 0, .int .i64 0, .int .i64 0, .int .i64 0, .int .i64 0, .int .i64 0, .int .i64 0, .int .i64 0, .int .i64 0] 44)
                  refine hK.out _ _ hH6 (fun hH7 => ?_)
                  clear hK K hH hH7
                  have hH := hH6
                  clear hH6
                  try simp only [Act.put, List.setIfInBounds_toArray, List.set_cons_zero, List.set_cons_succ]
                  refine wpAnyH_ready (rs := [27]) (by kernel_rfl) (by simp) ?_
                  refine AllReadyH.cons (o := _) rfl (fun K hK => ?_) AllReadyH.nil
                  go_simp
                  refine (HC8.out _ hH).mono ?_
                  rintro e w1 ⟨rfl, rfl⟩
                  refine hK.out _ _ hH (fun hH2 => ?_)
                  clear hK K hH2
                  try simp only [Act.put, List.setIfInBounds_toArray, List.set_cons_zero, List.set_cons_succ]
                  refine wpAnyH_ready (rs := [30]) (by kernel_rfl) (by simp) ?_
                  refine AllReadyH.cons (o := _) rfl (fun K hK => ?_) AllReadyH.nil
                  go_simp
                  refine (HC9.out _ hH).mono ?_
                  rintro e w2 ⟨rfl, b2⟩
                  have KG := hide (show Blk w2 W.heap.size (cellsI noIno) 44 from Blk.below (Blk.new W.drew #[.int .i64 0, .int .i64 0, .int .i64 0, .int .i64 0, .int .i64 0, .int .i64 0, .int .i64 0, .int .i64 0, .int .i64 0, .int .i64 0, .int .i64 0, .int .i64 0, .int .i64 0, .int .i64 0, .int .i64 0, .int .i64 0, .int .i64 0, .int .i64 0, .int .i64 0, .int .i64 0, .int .i64 0, .int .i64 0, .int .i64 0, .int .i64 0] 44) b2 (by show W.heap.size < (W.drew.alloc _).heap.size; simp))
                  have hH2 : Below W.heap.size W w2 := held_next hH b2
                  refine hK.out _ _ hH2 (fun hH3 => ?_)
                  clear hK K hH b2 hH3
                  try simp only [Act.put, List.setIfInBounds_toArray, List.set_cons_zero, List.set_cons_succ]
                  refine wpAnyH_take (i := 31) (oi := _) (v := .agg #[.int .i64 z0, .int .i64 (x1 : Int), .int .i64 (x2 : Int), .int .i64 (x3 : Int), .int .i64 (x4 : Int), .int .i64 (x5 : Int), .int .i64 (x6 : Int), .int .i64 (x7 : Int), .int .i64 (x8 : Int), .int .i64 (xs : Int), .int .i64 d0, .int .i64 d1, .int .i64 d2, .int .i64 d3, .int .i64 d4, .int .i64 d5, .int .i64 d6, .int .i64 d7, .int .i64 d8, .int .i64 d9, .int .i64 d10, .int .i64 d11, .int .i64 (xp : Int), .int .i64 (xq : Int)]) rfl (by kernel_rfl) (by kernel_rfl) (by kernel_rfl) (fun _ _ _ h => h) (Or.inl ⟨by rfl, fun w' hw' => by go_simp⟩) hH2 ?_
                  try simp only [Act.put, List.setIfInBounds_toArray, List.set_cons_zero, List.set_cons_succ]
                  refine wpAnyH_ready (rs := [33]) (by kernel_rfl) (by simp) ?_
                  refine AllReadyH.cons (o := _) rfl (fun K hK => ?_) AllReadyH.nil
                  rw [if_pos (by rfl)]
                  refine wp_store_row 44 _ _ rfl W.heap.size (cellsI (inoI [z0, (x1 : Int), (x2 : Int), (x3 : Int), (x4 : Int), (x5 : Int), (x6 : Int), (x7 : Int), (x8 : Int)] (xs : Int) [d0, d1, d2, d3, d4, d5, d6, d7, d8, d9, d10, d11] (xp : Int) (xq : Int))) rfl rfl 44 _ KG.out info24 rfl (cellsI_one _) ?_
                  have hH4 : Below W.heap.size W (w2.setRow W.heap.size (cellsI (inoI [z0, (x1 : Int), (x2 : Int), (x3 : Int), (x4 : Int), (x5 : Int), (x6 : Int), (x7 : Int), (x8 : Int)] (xs : Int) [d0, d1, d2, d3, d4, d5, d6, d7, d8, d9, d10, d11] (xp : Int) (xq : Int)))) := below_setRow hH2 (by first | exact Nat.le_refl _ | exact Nat.le_refl _) _
                  have KQ4 := hide (show Blk (w2.setRow W.heap.size (cellsI (inoI [z0, (x1 : Int), (x2 : Int), (x3 : Int), (x4 : Int), (x5 : Int), (x6 : Int), (x7 : Int), (x8 : Int)] (xs : Int) [d0, d1, d2, d3, d4, d5, d6, d7, d8, d9, d10, d11] (xp : Int) (xq : Int)))) W.heap.size (cellsI (inoI [z0, (x1 : Int), (x2 : Int), (x3 : Int), (x4 : Int), (x5 : Int), (x6 : Int), (x7 : Int), (x8 : Int)] (xs : Int) [d0, d1, d2, d3, d4, d5, d6, d7, d8, d9, d10, d11] (xp : Int) (xq : Int))) 44 from (KG.out).row _)
                  refine hK.out _ _ hH4 (fun hH5 => ?_)
                  clear hK K hH5
                  try simp only [Act.put, List.setIfInBounds_toArray, List.set_cons_zero, List.set_cons_succ]
                  refine wpAnyH_done (by kernel_rfl) (NoPanic.normal ?_) _
                  have HB4 := hide hH4
                  generalize hW4 : w2.setRow W.heap.size (cellsI (inoI [z0, (x1 : Int), (x2 : Int), (x3 : Int), (x4 : Int), (x5 : Int), (x6 : Int), (x7 : Int), (x8 : Int)] (xs : Int) [d0, d1, d2, d3, d4, d5, d6, d7, d8, d9, d10, d11] (xp : Int) (xq : Int))) = w4 at HB4 KQ4 ⊢
                  clear hW4 hH4 hH2
                  generalize W.heap.size = gg at KQ4 ⊢
                  have KN4 := hide (show Blk w4 w.heap.size (cellsI noIno) 44 from KB0.out.below HB4.out hlw)
                  have B4 := hide (HB0.out.trans (HB4.out.mono HB0.out.size))
                  go_wp2_with (first | (refine wpList_load_row rfl 44 _ rfl gg rfl 44 (cellsI (inoI [z0, (x1 : Int), (x2 : Int), (x3 : Int), (x4 : Int), (x5 : Int), (x6 : Int), (x7 : Int), (x8 : Int)] (xs : Int) [d0, d1, d2, d3, d4, d5, d6, d7, d8, d9, d10, d11] (xp : Int) (xq : Int))) (0, 0) _ KQ4.out Tryd.underlying44 rfl info24 ?_) | (go_at_call 56; fail))
                  refine (specI_any z0 (x1 : Int) (x2 : Int) (x3 : Int) (x4 : Int) (x5 : Int) (x6 : Int) (x7 : Int) (x8 : Int) (xs : Int) [d0, d1, d2, d3, d4, d5, d6, d7, d8, d9, d10, d11] (xp : Int) (xq : Int) _ rfl).mono ?_
                  rintro e w5 ⟨v5, rfl, o5, b5⟩
                  have K5 := hide (And.intro (KQ4.out.below b5 KQ4.out.lt) (And.intro (KN4.out.below b5 KN4.out.lt) (And.intro (B4.out.trans (b5.mono B4.out.size)) (HB4.out.trans (b5.mono HB4.out.size)))))
                  have O5 := hide o5
                  clear b5 o5 KN4 B4 KQ4 HB4
                  cases r with
                  | false =>
                    have hc : codeI z0 (x1 : Int) (x2 : Int) (x3 : Int) (x4 : Int) (x5 : Int) (x6 : Int) (x7 : Int) (x8 : Int) (xs : Int) [d0, d1, d2, d3, d4, d5, d6, d7, d8, d9, d10, d11] (xp : Int) (xq : Int) = 7 := by unfold codeI; rw [HRB.out.1]; rfl
                    rw [hc]
                    go_wp2_with (refine wpList_store_row rfl 44 _ _ rfl w.heap.size #[.int .i64 0, .int .i64 0, .int .i64 0, .int .i64 0, .int .i64 0, .int .i64 0, .int .i64 0, .int .i64 0, .int .i64 0, .int .i64 0, .int .i64 0, .int .i64 0, .int .i64 0, .int .i64 0, .int .i64 0, .int .i64 0, .int .i64 0, .int .i64 0, .int .i64 0, .int .i64 0, .int .i64 0, .int .i64 0, .int .i64 0, .int .i64 0] rfl rfl 44 _ K5.out.2.1 info24 rfl (cellsI_one noIno) ?_)
                    refine bodyPost_ret (v := .tuple #[.agg (cellsI noIno), .int .i64 21]) ?_ rfl ⟨rfl, below_setRow K5.out.2.2.1 (Nat.le_refl _) _⟩
                    exact results_row_tmp rfl _ _ w.heap.size 44 (cellsI noIno) (0, 0) _ _ rfl rfl (K5.out.2.1.row _) Tryd.underlying44 rfl info24
                  | true =>
                    have hc : codeI z0 (x1 : Int) (x2 : Int) (x3 : Int) (x4 : Int) (x5 : Int) (x6 : Int) (x7 : Int) (x8 : Int) (xs : Int) [d0, d1, d2, d3, d4, d5, d6, d7, d8, d9, d10, d11] (xp : Int) (xq : Int) = 0 := by unfold codeI; rw [HRB.out.1]; rfl
                    have hl : (encI z0 (x1 : Int) (x2 : Int) (x3 : Int) (x4 : Int) (x5 : Int) (x6 : Int) (x7 : Int) (x8 : Int) (xs : Int) [d0, d1, d2, d3, d4, d5, d6, d7, d8, d9, d10, d11] (xp : Int) (xq : Int)).length = 128 := by unfold encI; rw [if_pos HRB.out.1]; exact bytesIno_len _ _ _ _ _ _ _ _ _ _ _ _ _ rfl
                    rw [hc]
                    have o5 := O5.out
                    obtain ⟨g5, of5, cp5, rfl, hg5, _, _, hcell5⟩ := (Rd.own o5).partsC (by rw [hl]; omega)
                    have v1 := run_convert_bytes_arg (P := Tryd.prog) w5 24 5 Tryd.underlying24 Tryd.underlying5 bd off 128 cap zs HZ0.out (HCell.out w5 K5.out.2.2.2) 9 Tryd.underlying9
                    have v2 := run_convert_bytes_arg (P := Tryd.prog) w5 24 5 Tryd.underlying24 Tryd.underlying5 g5 of5 (encI z0 (x1 : Int) (x2 : Int) (x3 : Int) (x4 : Int) (x5 : Int) (x6 : Int) (x7 : Int) (x8 : Int) (xs : Int) [d0, d1, d2, d3, d4, d5, d6, d7, d8, d9, d10, d11] (xp : Int) (xq : Int)).length cp5 (encI z0 (x1 : Int) (x2 : Int) (x3 : Int) (x4 : Int) (x5 : Int) (x6 : Int) (x7 : Int) (x8 : Int) (xs : Int) [d0, d1, d2, d3, d4, d5, d6, d7, d8, d9, d10, d11] (xp : Int) (xq : Int)) rfl hcell5 9 Tryd.underlying9
                    cases b with
                    | true =>
                      have he : (encI z0 (x1 : Int) (x2 : Int) (x3 : Int) (x4 : Int) (x5 : Int) (x6 : Int) (x7 : Int) (x8 : Int) (xs : Int) [d0, d1, d2, d3, d4, d5, d6, d7, d8, d9, d10, d11] (xp : Int) (xq : Int)) = zs := by simpa using HRB.out.2.1
                      rw [he] at v2 ⊢
                      rw [HZ0.out] at v2 ⊢
                      generalize strOfNums zs = S at v1 v2
                      clear hcell5 o5 he hc hl
                      go_wp2_with (first | (refine wpList_load_row rfl 44 _ rfl gg rfl 44 (cellsI (inoI [z0, (x1 : Int), (x2 : Int), (x3 : Int), (x4 : Int), (x5 : Int), (x6 : Int), (x7 : Int), (x8 : Int)] (xs : Int) [d0, d1, d2, d3, d4, d5, d6, d7, d8, d9, d10, d11] (xp : Int) (xq : Int))) (0, 0) _ K5.out.1 Tryd.underlying44 rfl info24 ?_) | (refine wpList_store_row rfl 44 _ _ rfl w.heap.size (cellsI (inoI [z0, (x1 : Int), (x2 : Int), (x3 : Int), (x4 : Int), (x5 : Int), (x6 : Int), (x7 : Int), (x8 : Int)] (xs : Int) [d0, d1, d2, d3, d4, d5, d6, d7, d8, d9, d10, d11] (xp : Int) (xq : Int))) rfl rfl 44 _ K5.out.2.1 info24 rfl (cellsI_one _) ?_))
                      refine bodyPost_ret (v := .tuple #[.agg (cellsI (inoI [z0, (x1 : Int), (x2 : Int), (x3 : Int), (x4 : Int), (x5 : Int), (x6 : Int), (x7 : Int), (x8 : Int)] (xs : Int) [d0, d1, d2, d3, d4, d5, d6, d7, d8, d9, d10, d11] (xp : Int) (xq : Int))), .int .i64 0]) ?_ rfl ⟨rfl, below_setRow K5.out.2.2.1 (Nat.le_refl _) _⟩
                      exact results_row_tmp rfl _ _ w.heap.size 44 (cellsI (inoI [z0, (x1 : Int), (x2 : Int), (x3 : Int), (x4 : Int), (x5 : Int), (x6 : Int), (x7 : Int), (x8 : Int)] (xs : Int) [d0, d1, d2, d3, d4, d5, d6, d7, d8, d9, d10, d11] (xp : Int) (xq : Int))) (0, 0) _ _ rfl rfl (K5.out.2.1.row _) Tryd.underlying44 rfl info24
                    | false =>
                      have hne : ¬ (strOfNums (encI z0 (x1 : Int) (x2 : Int) (x3 : Int) (x4 : Int) (x5 : Int) (x6 : Int) (x7 : Int) (x8 : Int) (xs : Int) [d0, d1, d2, d3, d4, d5, d6, d7, d8, d9, d10, d11] (xp : Int) (xq : Int))).toList = (strOfNums zs).toList := fun h => by
                        have h1 := strOf_inj HRB.out.2.2.1 HRB.out.2.2.2 h
                        have h2 := HRB.out.2.1
                        rw [decide_eq_true h1] at h2
                        cases h2
                      rw [hl] at v2 ⊢
                      generalize strOfNums zs = S1 at v1 hne
                      generalize strOfNums (encI z0 (x1 : Int) (x2 : Int) (x3 : Int) (x4 : Int) (x5 : Int) (x6 : Int) (x7 : Int) (x8 : Int) (xs : Int) [d0, d1, d2, d3, d4, d5, d6, d7, d8, d9, d10, d11] (xp : Int) (xq : Int)) = S2 at v2 hne
                      have hne1 : (S2.toList == S1.toList) = false := by simpa using hne
                      clear hne
                      clear hcell5 o5 hc hl
                      go_wp2_with (refine wpList_store_row rfl 44 _ _ rfl w.heap.size #[.int .i64 0, .int .i64 0, .int .i64 0, .int .i64 0, .int .i64 0, .int .i64 0, .int .i64 0, .int .i64 0, .int .i64 0, .int .i64 0, .int .i64 0, .int .i64 0, .int .i64 0, .int .i64 0, .int .i64 0, .int .i64 0, .int .i64 0, .int .i64 0, .int .i64 0, .int .i64 0, .int .i64 0, .int .i64 0, .int .i64 0, .int .i64 0] rfl rfl 44 _ K5.out.2.1 info24 rfl (cellsI_one noIno) ?_)
                      refine bodyPost_ret (v := .tuple #[.agg (cellsI noIno), .int .i64 21]) ?_ rfl ⟨rfl, below_setRow K5.out.2.2.1 (Nat.le_refl _) _⟩
                      exact results_row_tmp rfl _ _ w.heap.size 44 (cellsI noIno) (0, 0) _ _ rfl rfl (K5.out.2.1.row _) Tryd.underlying44 rfl info24
              · go_simp
                have hH6 := held_alloc hH (.cells #[.int .i64 0, .int .i64 0, .int .i64 0, .int .i64 0, .int .i64 0, .int .i64 0, .int .i64 0, .int .i64 0, .int .i64 0, .int .i64 0, .int .i64 0, .int .i64 0, .int .i64 0, .int .i64 0, .int .i64 0, .int .i64 0, .int .i64 0, .int .i64 0, .int .i64 0, .int .i64 0, .int .i64 0, .int .i64 0, .int .i64 0, .int .i64 0] 44)
                refine hK.out _ _ hH6 (fun hH7 => ?_)
                clear hK K hH hH7
                have hH := hH6
                clear hH6
                try simp only [Act.put, List.setIfInBounds_toArray, List.set_cons_zero, List.set_cons_succ]
                refine wpAnyH_ready (rs := [24]) (by kernel_rfl) (by simp) ?_
                refine AllReadyH.cons (o := _) rfl (fun K hK => ?_) AllReadyH.nil
                go_simp
                refine (HC7.out _ hH).mono ?_
                rintro e w1 ⟨rfl, rfl⟩
                refine hK.out _ _ hH (fun hH2 => ?_)
                clear hK K hH2
                try simp only [Act.put, List.setIfInBounds_toArray, List.set_cons_zero, List.set_cons_succ]
                refine wpAnyH_ready (rs := [27]) (by kernel_rfl) (by simp) ?_
                refine AllReadyH.cons (o := _) rfl (fun K hK => ?_) AllReadyH.nil
                go_simp
                refine (HC8.out _ hH).mono ?_
                rintro e w1 ⟨rfl, rfl⟩
                refine hK.out _ _ hH (fun hH2 => ?_)
                clear hK K hH2
                try simp only [Act.put, List.setIfInBounds_toArray, List.set_cons_zero, List.set_cons_succ]
                refine wpAnyH_ready (rs := [30]) (by kernel_rfl) (by simp) ?_
                refine AllReadyH.cons (o := _) rfl (fun K hK => ?_) AllReadyH.nil
                go_simp
                refine (HC9.out _ hH).mono ?_
                rintro e w2 ⟨rfl, b2⟩
                have KG := hide (show Blk w2 W.heap.size (cellsI noIno) 44 from Blk.below (Blk.new W.drew #[.int .i64 0, .int .i64 0, .int .i64 0, .int .i64 0, .int .i64 0, .int .i64 0, .int .i64 0, .int .i64 0, .int .i64 0, .int .i64 0, .int .i64 0, .int .i64 0, .int .i64 0, .int .i64 0, .int .i64 0, .int .i64 0, .int .i64 0, .int .i64 0, .int .i64 0, .int .i64 0, .int .i64 0, .int .i64 0, .int .i64 0, .int .i64 0] 44) b2 (by show W.heap.size < (W.drew.alloc _).heap.size; simp))
                have hH2 : Below W.heap.size W w2 := held_next hH b2
                refine hK.out _ _ hH2 (fun hH3 => ?_)
                clear hK K hH b2 hH3
                try simp only [Act.put, List.setIfInBounds_toArray, List.set_cons_zero, List.set_cons_succ]
                refine wpAnyH_take (i := 31) (oi := _) (v := .agg #[.int .i64 z0, .int .i64 (x1 : Int), .int .i64 (x2 : Int), .int .i64 (x3 : Int), .int .i64 (x4 : Int), .int .i64 (x5 : Int), .int .i64 (x6 : Int), .int .i64 (x7 : Int), .int .i64 (x8 : Int), .int .i64 (xs : Int), .int .i64 d0, .int .i64 d1, .int .i64 d2, .int .i64 d3, .int .i64 d4, .int .i64 d5, .int .i64 d6, .int .i64 d7, .int .i64 d8, .int .i64 d9, .int .i64 d10, .int .i64 d11, .int .i64 (xp : Int), .int .i64 (xq : Int)]) rfl (by kernel_rfl) (by kernel_rfl) (by kernel_rfl) (fun _ _ _ h => h) (Or.inl ⟨by rfl, fun w' hw' => by go_simp⟩) hH2 ?_
                try simp only [Act.put, List.setIfInBounds_toArray, List.set_cons_zero, List.set_cons_succ]
                refine wpAnyH_ready (rs := [33]) (by kernel_rfl) (by simp) ?_
                refine AllReadyH.cons (o := _) rfl (fun K hK => ?_) AllReadyH.nil
                rw [if_pos (by rfl)]
                refine wp_store_row 44 _ _ rfl W.heap.size (cellsI (inoI [z0, (x1 : Int), (x2 : Int), (x3 : Int), (x4 : Int), (x5 : Int), (x6 : Int), (x7 : Int), (x8 : Int)] (xs : Int) [d0, d1, d2, d3, d4, d5, d6, d7, d8, d9, d10, d11] (xp : Int) (xq : Int))) rfl rfl 44 _ KG.out info24 rfl (cellsI_one _) ?_
                have hH4 : Below W.heap.size W (w2.setRow W.heap.size (cellsI (inoI [z0, (x1 : Int), (x2 : Int), (x3 : Int), (x4 : Int), (x5 : Int), (x6 : Int), (x7 : Int), (x8 : Int)] (xs : Int) [d0, d1, d2, d3, d4, d5, d6, d7, d8, d9, d10, d11] (xp : Int) (xq : Int)))) := below_setRow hH2 (by first | exact Nat.le_refl _ | exact Nat.le_refl _) _
                have KQ4 := hide (show Blk (w2.setRow W.heap.size (cellsI (inoI [z0, (x1 : Int), (x2 : Int), (x3 : Int), (x4 : Int), (x5 : Int), (x6 : Int), (x7 : Int), (x8 : Int)] (xs : Int) [d0, d1, d2, d3, d4, d5, d6, d7, d8, d9, d10, d11] (xp : Int) (xq : Int)))) W.heap.size (cellsI (inoI [z0, (x1 : Int), (x2 : Int), (x3 : Int), (x4 : Int), (x5 : Int), (x6 : Int), (x7 : Int), (x8 : Int)] (xs : Int) [d0, d1, d2, d3, d4, d5, d6, d7, d8, d9, d10, d11] (xp : Int) (xq : Int))) 44 from (KG.out).row _)
                refine hK.out _ _ hH4 (fun hH5 => ?_)
                clear hK K hH5
                try simp only [Act.put, List.setIfInBounds_toArray, List.set_cons_zero, List.set_cons_succ]
                refine wpAnyH_done (by kernel_rfl) (NoPanic.normal ?_) _
                have HB4 := hide hH4
                generalize hW4 : w2.setRow W.heap.size (cellsI (inoI [z0, (x1 : Int), (x2 : Int), (x3 : Int), (x4 : Int), (x5 : Int), (x6 : Int), (x7 : Int), (x8 : Int)] (xs : Int) [d0, d1, d2, d3, d4, d5, d6, d7, d8, d9, d10, d11] (xp : Int) (xq : Int))) = w4 at HB4 KQ4 ⊢
                clear hW4 hH4 hH2
                generalize W.heap.size = gg at KQ4 ⊢
                have KN4 := hide (show Blk w4 w.heap.size (cellsI noIno) 44 from KB0.out.below HB4.out hlw)
                have B4 := hide (HB0.out.trans (HB4.out.mono HB0.out.size))
                go_wp2_with (first | (refine wpList_load_row rfl 44 _ rfl gg rfl 44 (cellsI (inoI [z0, (x1 : Int), (x2 : Int), (x3 : Int), (x4 : Int), (x5 : Int), (x6 : Int), (x7 : Int), (x8 : Int)] (xs : Int) [d0, d1, d2, d3, d4, d5, d6, d7, d8, d9, d10, d11] (xp : Int) (xq : Int))) (0, 0) _ KQ4.out Tryd.underlying44 rfl info24 ?_) | (go_at_call 56; fail))
                refine (specI_any z0 (x1 : Int) (x2 : Int) (x3 : Int) (x4 : Int) (x5 : Int) (x6 : Int) (x7 : Int) (x8 : Int) (xs : Int) [d0, d1, d2, d3, d4, d5, d6, d7, d8, d9, d10, d11] (xp : Int) (xq : Int) _ rfl).mono ?_
                rintro e w5 ⟨v5, rfl, o5, b5⟩
                have K5 := hide (And.intro (KQ4.out.below b5 KQ4.out.lt) (And.intro (KN4.out.below b5 KN4.out.lt) (And.intro (B4.out.trans (b5.mono B4.out.size)) (HB4.out.trans (b5.mono HB4.out.size)))))
                have O5 := hide o5
                clear b5 o5 KN4 B4 KQ4 HB4
                cases r with
                | false =>
                  have hc : codeI z0 (x1 : Int) (x2 : Int) (x3 : Int) (x4 : Int) (x5 : Int) (x6 : Int) (x7 : Int) (x8 : Int) (xs : Int) [d0, d1, d2, d3, d4, d5, d6, d7, d8, d9, d10, d11] (xp : Int) (xq : Int) = 7 := by unfold codeI; rw [HRB.out.1]; rfl
                  rw [hc]
                  go_wp2_with (refine wpList_store_row rfl 44 _ _ rfl w.heap.size #[.int .i64 0, .int .i64 0, .int .i64 0, .int .i64 0, .int .i64 0, .int .i64 0, .int .i64 0, .int .i64 0, .int .i64 0, .int .i64 0, .int .i64 0, .int .i64 0, .int .i64 0, .int .i64 0, .int .i64 0, .int .i64 0, .int .i64 0, .int .i64 0, .int .i64 0, .int .i64 0, .int .i64 0, .int .i64 0, .int .i64 0, .int .i64 0] rfl rfl 44 _ K5.out.2.1 info24 rfl (cellsI_one noIno) ?_)
                  refine bodyPost_ret (v := .tuple #[.agg (cellsI noIno), .int .i64 21]) ?_ rfl ⟨rfl, below_setRow K5.out.2.2.1 (Nat.le_refl _) _⟩
                  exact results_row_tmp rfl _ _ w.heap.size 44 (cellsI noIno) (0, 0) _ _ rfl rfl (K5.out.2.1.row _) Tryd.underlying44 rfl info24
                | true =>
                  have hc : codeI z0 (x1 : Int) (x2 : Int) (x3 : Int) (x4 : Int) (x5 : Int) (x6 : Int) (x7 : Int) (x8 : Int) (xs : Int) [d0, d1, d2, d3, d4, d5, d6, d7, d8, d9, d10, d11] (xp : Int) (xq : Int) = 0 := by unfold codeI; rw [HRB.out.1]; rfl
                  have hl : (encI z0 (x1 : Int) (x2 : Int) (x3 : Int) (x4 : Int) (x5 : Int) (x6 : Int) (x7 : Int) (x8 : Int) (xs : Int) [d0, d1, d2, d3, d4, d5, d6, d7, d8, d9, d10, d11] (xp : Int) (xq : Int)).length = 128 := by unfold encI; rw [if_pos HRB.out.1]; exact bytesIno_len _ _ _ _ _ _ _ _ _ _ _ _ _ rfl
                  rw [hc]
                  have o5 := O5.out
                  obtain ⟨g5, of5, cp5, rfl, hg5, _, _, hcell5⟩ := (Rd.own o5).partsC (by rw [hl]; omega)
                  have v1 := run_convert_bytes_arg (P := Tryd.prog) w5 24 5 Tryd.underlying24 Tryd.underlying5 bd off 128 cap zs HZ0.out (HCell.out w5 K5.out.2.2.2) 9 Tryd.underlying9
                  have v2 := run_convert_bytes_arg (P := Tryd.prog) w5 24 5 Tryd.underlying24 Tryd.underlying5 g5 of5 (encI z0 (x1 : Int) (x2 : Int) (x3 : Int) (x4 : Int) (x5 : Int) (x6 : Int) (x7 : Int) (x8 : Int) (xs : Int) [d0, d1, d2, d3, d4, d5, d6, d7, d8, d9, d10, d11] (xp : Int) (xq : Int)).length cp5 (encI z0 (x1 : Int) (x2 : Int) (x3 : Int) (x4 : Int) (x5 : Int) (x6 : Int) (x7 : Int) (x8 : Int) (xs : Int) [d0, d1, d2, d3, d4, d5, d6, d7, d8, d9, d10, d11] (xp : Int) (xq : Int)) rfl hcell5 9 Tryd.underlying9
                  cases b with
                  | true =>
                    have he : (encI z0 (x1 : Int) (x2 : Int) (x3 : Int) (x4 : Int) (x5 : Int) (x6 : Int) (x7 : Int) (x8 : Int) (xs : Int) [d0, d1, d2, d3, d4, d5, d6, d7, d8, d9, d10, d11] (xp : Int) (xq : Int)) = zs := by simpa using HRB.out.2.1
                    rw [he] at v2 ⊢
                    rw [HZ0.out] at v2 ⊢
                    generalize strOfNums zs = S at v1 v2
                    clear hcell5 o5 he hc hl
                    go_wp2_with (first | (refine wpList_load_row rfl 44 _ rfl gg rfl 44 (cellsI (inoI [z0, (x1 : Int), (x2 : Int), (x3 : Int), (x4 : Int), (x5 : Int), (x6 : Int), (x7 : Int), (x8 : Int)] (xs : Int) [d0, d1, d2, d3, d4, d5, d6, d7, d8, d9, d10, d11] (xp : Int) (xq : Int))) (0, 0) _ K5.out.1 Tryd.underlying44 rfl info24 ?_) | (refine wpList_store_row rfl 44 _ _ rfl w.heap.size (cellsI (inoI [z0, (x1 : Int), (x2 : Int), (x3 : Int), (x4 : Int), (x5 : Int), (x6 : Int), (x7 : Int), (x8 : Int)] (xs : Int) [d0, d1, d2, d3, d4, d5, d6, d7, d8, d9, d10, d11] (xp : Int) (xq : Int))) rfl rfl 44 _ K5.out.2.1 info24 rfl (cellsI_one _) ?_))
                    refine bodyPost_ret (v := .tuple #[.agg (cellsI (inoI [z0, (x1 : Int), (x2 : Int), (x3 : Int), (x4 : Int), (x5 : Int), (x6 : Int), (x7 : Int), (x8 : Int)] (xs : Int) [d0, d1, d2, d3, d4, d5, d6, d7, d8, d9, d10, d11] (xp : Int) (xq : Int))), .int .i64 0]) ?_ rfl ⟨rfl, below_setRow K5.out.2.2.1 (Nat.le_refl _) _⟩
                    exact results_row_tmp rfl _ _ w.heap.size 44 (cellsI (inoI [z0, (x1 : Int), (x2 : Int), (x3 : Int), (x4 : Int), (x5 : Int), (x6 : Int), (x7 : Int), (x8 : Int)] (xs : Int) [d0, d1, d2, d3, d4, d5, d6, d7, d8, d9, d10, d11] (xp : Int) (xq : Int))) (0, 0) _ _ rfl rfl (K5.out.2.1.row _) Tryd.underlying44 rfl info24
                  | false =>
                    have hne : ¬ (strOfNums (encI z0 (x1 : Int) (x2 : Int) (x3 : Int) (x4 : Int) (x5 : Int) (x6 : Int) (x7 : Int) (x8 : Int) (xs : Int) [d0, d1, d2, d3, d4, d5, d6, d7, d8, d9, d10, d11] (xp : Int) (xq : Int))).toList = (strOfNums zs).toList := fun h => by
                      have h1 := strOf_inj HRB.out.2.2.1 HRB.out.2.2.2 h
                      have h2 := HRB.out.2.1
                      rw [decide_eq_true h1] at h2
                      cases h2
                    rw [hl] at v2 ⊢
                    generalize strOfNums zs = S1 at v1 hne
                    generalize strOfNums (encI z0 (x1 : Int) (x2 : Int) (x3 : Int) (x4 : Int) (x5 : Int) (x6 : Int) (x7 : Int) (x8 : Int) (xs : Int) [d0, d1, d2, d3, d4, d5, d6, d7, d8, d9, d10, d11] (xp : Int) (xq : Int)) = S2 at v2 hne
                    have hne1 : (S2.toList == S1.toList) = false := by simpa using hne
                    clear hne
                    clear hcell5 o5 hc hl
                    go_wp2_with (refine wpList_store_row rfl 44 _ _ rfl w.heap.size #[.int .i64 0, .int .i64 0, .int .i64 0, .int .i64 0, .int .i64 0, .int .i64 0, .int .i64 0, .int .i64 0, .int .i64 0, .int .i64 0, .int .i64 0, .int .i64 0, .int .i64 0, .int .i64 0, .int .i64 0, .int .i64 0, .int .i64 0, .int .i64 0, .int .i64 0, .int .i64 0, .int .i64 0, .int .i64 0, .int .i64 0, .int .i64 0] rfl rfl 44 _ K5.out.2.1 info24 rfl (cellsI_one noIno) ?_)
                    refine bodyPost_ret (v := .tuple #[.agg (cellsI noIno), .int .i64 21]) ?_ rfl ⟨rfl, below_setRow K5.out.2.2.1 (Nat.le_refl _) _⟩
                    exact results_row_tmp rfl _ _ w.heap.size 44 (cellsI noIno) (0, 0) _ _ rfl rfl (K5.out.2.1.row _) Tryd.underlying44 rfl info24
            · go_simp
              have hH6 := held_alloc hH (.cells #[.int .i64 0, .int .i64 0, .int .i64 0, .int .i64 0, .int .i64 0, .int .i64 0, .int .i64 0, .int .i64 0, .int .i64 0, .int .i64 0, .int .i64 0, .int .i64 0, .int .i64 0, .int .i64 0, .int .i64 0, .int .i64 0, .int .i64 0, .int .i64 0, .int .i64 0, .int .i64 0, .int .i64 0, .int .i64 0, .int .i64 0, .int .i64 0] 44)
              refine hK.out _ _ hH6 (fun hH7 => ?_)
              clear hK K hH hH7
              have hH := hH6
              clear hH6
              try simp only [Act.put, List.setIfInBounds_toArray, List.set_cons_zero, List.set_cons_succ]
              refine wpAnyH_ready (rs := [21]) (by kernel_rfl) (by simp) ?_
              refine AllReadyH.cons (o := _) rfl (fun K hK => ?_) AllReadyH.nil
              go_simp
              refine (HC6.out _ hH).mono ?_
              rintro e w1 ⟨rfl, rfl⟩
              refine hK.out _ _ hH (fun hH2 => ?_)
              clear hK K hH2
              try simp only [Act.put, List.setIfInBounds_toArray, List.set_cons_zero, List.set_cons_succ]
              refine wpAnyH_ready (rs := [24]) (by kernel_rfl) (by simp) ?_
              refine AllReadyH.cons (o := _) rfl (fun K hK => ?_) AllReadyH.nil
              go_simp
              refine (HC7.out _ hH).mono ?_
              rintro e w1 ⟨rfl, rfl⟩
              refine hK.out _ _ hH (fun hH2 => ?_)
              clear hK K hH2
              try simp only [Act.put, List.setIfInBounds_toArray, List.set_cons_zero, List.set_cons_succ]
              refine wpAnyH_ready (rs := [27]) (by kernel_rfl) (by simp) ?_
              refine AllReadyH.cons (o := _) rfl (fun K hK => ?_) AllReadyH.nil
              go_simp
              refine (HC8.out _ hH).mono ?_
              rintro e w1 ⟨rfl, rfl⟩
              refine hK.out _ _ hH (fun hH2 => ?_)
              clear hK K hH2
              try simp only [Act.put, List.setIfInBounds_toArray, List.set_cons_zero, List.set_cons_succ]
              refine wpAnyH_ready (rs := [30]) (by kernel_rfl) (by simp) ?_
              refine AllReadyH.cons (o := _) rfl (fun K hK => ?_) AllReadyH.nil
              go_simp
              refine (HC9.out _ hH).mono ?_
              rintro e w2 ⟨rfl, b2⟩
              have KG := hide (show Blk w2 W.heap.size (cellsI noIno) 44 from Blk.below (Blk.new W.drew #[.int .i64 0, .int .i64 0, .int .i64 0, .int .i64 0, .int .i64 0, .int .i64 0, .int .i64 0, .int .i64 0, .int .i64 0, .int .i64 0, .int .i64 0, .int .i64 0, .int .i64 0, .int .i64 0, .int .i64 0, .int .i64 0, .int .i64 0, .int .i64 0, .int .i64 0, .int .i64 0, .int .i64 0, .int .i64 0, .int .i64 0, .int .i64 0] 44) b2 (by show W.heap.size < (W.drew.alloc _).heap.size; simp))
              have hH2 : Below W.heap.size W w2 := held_next hH b2
              refine hK.out _ _ hH2 (fun hH3 => ?_)
              clear hK K hH b2 hH3
              try simp only [Act.put, List.setIfInBounds_toArray, List.set_cons_zero, List.set_cons_succ]
              refine wpAnyH_take (i := 31) (oi := _) (v := .agg #[.int .i64 z0, .int .i64 (x1 : Int), .int .i64 (x2 : Int), .int .i64 (x3 : Int), .int .i64 (x4 : Int), .int .i64 (x5 : Int), .int .i64 (x6 : Int), .int .i64 (x7 : Int), .int .i64 (x8 : Int), .int .i64 (xs : Int), .int .i64 d0, .int .i64 d1, .int .i64 d2, .int .i64 d3, .int .i64 d4, .int .i64 d5, .int .i64 d6, .int .i64 d7, .int .i64 d8, .int .i64 d9, .int .i64 d10, .int .i64 d11, .int .i64 (xp : Int), .int .i64 (xq : Int)]) rfl (by kernel_rfl) (by kernel_rfl) (by kernel_rfl) (fun _ _ _ h => h) (Or.inl ⟨by rfl, fun w' hw' => by go_simp⟩) hH2 ?_
              try simp only [Act.put, List.setIfInBounds_toArray, List.set_cons_zero, List.set_cons_succ]
              refine wpAnyH_ready (rs := [33]) (by kernel_rfl) (by simp) ?_
              refine AllReadyH.cons (o := _) rfl (fun K hK => ?_) AllReadyH.nil
              rw [if_pos (by rfl)]
              refine wp_store_row 44 _ _ rfl W.heap.size (cellsI (inoI [z0, (x1 : Int), (x2 : Int), (x3 : Int), (x4 : Int), (x5 : Int), (x6 : Int), (x7 : Int), (x8 : Int)] (xs : Int) [d0, d1, d2, d3, d4, d5, d6, d7, d8, d9, d10, d11] (xp : Int) (xq : Int))) rfl rfl 44 _ KG.out info24 rfl (cellsI_one _) ?_
              have hH4 : Below W.heap.size W (w2.setRow W.heap.size (cellsI (inoI [z0, (x1 : Int), (x2 : Int), (x3 : Int), (x4 : Int), (x5 : Int), (x6 : Int), (x7 : Int), (x8 : Int)] (xs : Int) [d0, d1, d2, d3, d4, d5, d6, d7, d8, d9, d10, d11] (xp : Int) (xq : Int)))) := below_setRow hH2 (by first | exact Nat.le_refl _ | exact Nat.le_refl _) _
              have KQ4 := hide (show Blk (w2.setRow W.heap.size (cellsI (inoI [z0, (x1 : Int), (x2 : Int), (x3 : Int), (x4 : Int), (x5 : Int), (x6 : Int), (x7 : Int), (x8 : Int)] (xs : Int) [d0, d1, d2, d3, d4, d5, d6, d7, d8, d9, d10, d11] (xp : Int) (xq : Int)))) W.heap.size (cellsI (inoI [z0, (x1 : Int), (x2 : Int), (x3 : Int), (x4 : Int), (x5 : Int), (x6 : Int), (x7 : Int), (x8 : Int)] (xs : Int) [d0, d1, d2, d3, d4, d5, d6, d7, d8, d9, d10, d11] (xp : Int) (xq : Int))) 44 from (KG.out).row _)
              refine hK.out _ _ hH4 (fun hH5 => ?_)
              clear hK K hH5
              try simp only [Act.put, List.setIfInBounds_toArray, List.set_cons_zero, List.set_cons_succ]
              refine wpAnyH_done (by kernel_rfl) (NoPanic.normal ?_) _
              have HB4 := hide hH4
              generalize hW4 : w2.setRow W.heap.size (cellsI (inoI [z0, (x1 : Int), (x2 : Int), (x3 : Int), (x4 : Int), (x5 : Int), (x6 : Int), (x7 : Int), (x8 : Int)] (xs : Int) [d0, d1, d2, d3, d4, d5, d6, d7, d8, d9, d10, d11] (xp : Int) (xq : Int))) = w4 at HB4 KQ4 ⊢
              clear hW4 hH4 hH2
              generalize W.heap.size = gg at KQ4 ⊢
              have KN4 := hide (show Blk w4 w.heap.size (cellsI noIno) 44 from KB0.out.below HB4.out hlw)
              have B4 := hide (HB0.out.trans (HB4.out.mono HB0.out.size))
              go_wp2_with (first | (refine wpList_load_row rfl 44 _ rfl gg rfl 44 (cellsI (inoI [z0, (x1 : Int), (x2 : Int), (x3 : Int), (x4 : Int), (x5 : Int), (x6 : Int), (x7 : Int), (x8 : Int)] (xs : Int) [d0, d1, d2, d3, d4, d5, d6, d7, d8, d9, d10, d11] (xp : Int) (xq : Int))) (0, 0) _ KQ4.out Tryd.underlying44 rfl info24 ?_) | (go_at_call 56; fail))
              refine (specI_any z0 (x1 : Int) (x2 : Int) (x3 : Int) (x4 : Int) (x5 : Int) (x6 : Int) (x7 : Int) (x8 : Int) (xs : Int) [d0, d1, d2, d3, d4, d5, d6, d7, d8, d9, d10, d11] (xp : Int) (xq : Int) _ rfl).mono ?_
              rintro e w5 ⟨v5, rfl, o5, b5⟩
              have K5 := hide (And.intro (KQ4.out.below b5 KQ4.out.lt) (And.intro (KN4.out.below b5 KN4.out.lt) (And.intro (B4.out.trans (b5.mono B4.out.size)) (HB4.out.trans (b5.mono HB4.out.size)))))
              have O5 := hide o5
              clear b5 o5 KN4 B4 KQ4 HB4
              cases r with
              | false =>
                have hc : codeI z0 (x1 : Int) (x2 : Int) (x3 : Int) (x4 : Int) (x5 : Int) (x6 : Int) (x7 : Int) (x8 : Int) (xs : Int) [d0, d1, d2, d3, d4, d5, d6, d7, d8, d9, d10, d11] (xp : Int) (xq : Int) = 7 := by unfold codeI; rw [HRB.out.1]; rfl
                rw [hc]
                go_wp2_with (refine wpList_store_row rfl 44 _ _ rfl w.heap.size #[.int .i64 0, .int .i64 0, .int .i64 0, .int .i64 0, .int .i64 0, .int .i64 0, .int .i64 0, .int .i64 0, .int .i64 0, .int .i64 0, .int .i64 0, .int .i64 0, .int .i64 0, .int .i64 0, .int .i64 0, .int .i64 0, .int .i64 0, .int .i64 0, .int .i64 0, .int .i64 0, .int .i64 0, .int .i64 0, .int .i64 0, .int .i64 0] rfl rfl 44 _ K5.out.2.1 info24 rfl (cellsI_one noIno) ?_)
                refine bodyPost_ret (v := .tuple #[.agg (cellsI noIno), .int .i64 21]) ?_ rfl ⟨rfl, below_setRow K5.out.2.2.1 (Nat.le_refl _) _⟩
                exact results_row_tmp rfl _ _ w.heap.size 44 (cellsI noIno) (0, 0) _ _ rfl rfl (K5.out.2.1.row _) Tryd.underlying44 rfl info24
              | true =>
                have hc : codeI z0 (x1 : Int) (x2 : Int) (x3 : Int) (x4 : Int) (x5 : Int) (x6 : Int) (x7 : Int) (x8 : Int) (xs : Int) [d0, d1, d2, d3, d4, d5, d6, d7, d8, d9, d10, d11] (xp : Int) (xq : Int) = 0 := by unfold codeI; rw [HRB.out.1]; rfl
                have hl : (encI z0 (x1 : Int) (x2 : Int) (x3 : Int) (x4 : Int) (x5 : Int) (x6 : Int) (x7 : Int) (x8 : Int) (xs : Int) [d0, d1, d2, d3, d4, d5, d6, d7, d8, d9, d10, d11] (xp : Int) (xq : Int)).length = 128 := by unfold encI; rw [if_pos HRB.out.1]; exact bytesIno_len _ _ _ _ _ _ _ _ _ _ _ _ _ rfl
                rw [hc]
                have o5 := O5.out
                obtain ⟨g5, of5, cp5, rfl, hg5, _, _, hcell5⟩ := (Rd.own o5).partsC (by rw [hl]; omega)
                have v1 := run_convert_bytes_arg (P := Tryd.prog) w5 24 5 Tryd.underlying24 Tryd.underlying5 bd off 128 cap zs HZ0.out (HCell.out w5 K5.out.2.2.2) 9 Tryd.underlying9
                have v2 := run_convert_bytes_arg (P := Tryd.prog) w5 24 5 Tryd.underlying24 Tryd.underlying5 g5 of5 (encI z0 (x1 : Int) (x2 : Int) (x3 : Int) (x4 : Int) (x5 : Int) (x6 : Int) (x7 : Int) (x8 : Int) (xs : Int) [d0, d1, d2, d3, d4, d5, d6, d7, d8, d9, d10, d11] (xp : Int) (xq : Int)).length cp5 (encI z0 (x1 : Int) (x2 : Int) (x3 : Int) (x4 : Int) (x5 : Int) (x6 : Int) (x7 : Int) (x8 : Int) (xs : Int) [d0, d1, d2, d3, d4, d5, d6, d7, d8, d9, d10, d11] (xp : Int) (xq : Int)) rfl hcell5 9 Tryd.underlying9
                cases b with
                | true =>
                  have he : (encI z0 (x1 : Int) (x2 : Int) (x3 : Int) (x4 : Int) (x5 : Int) (x6 : Int) (x7 : Int) (x8 : Int) (xs : Int) [d0, d1, d2, d3, d4, d5, d6, d7, d8, d9, d10, d11] (xp : Int) (xq : Int)) = zs := by simpa using HRB.out.2.1
                  rw [he] at v2 ⊢
                  rw [HZ0.out] at v2 ⊢
                  generalize strOfNums zs = S at v1 v2
                  clear hcell5 o5 he hc hl
                  go_wp2_with (first | (refine wpList_load_row rfl 44 _ rfl gg rfl 44 (cellsI (inoI [z0, (x1 : Int), (x2 : Int), (x3 : Int), (x4 : Int), (x5 : Int), (x6 : Int), (x7 : Int), (x8 : Int)] (xs : Int) [d0, d1, d2, d3, d4, d5, d6, d7, d8, d9, d10, d11] (xp : Int) (xq : Int))) (0, 0) _ K5.out.1 Tryd.underlying44 rfl info24 ?_) | (refine wpList_store_row rfl 44 _ _ rfl w.heap.size (cellsI (inoI [z0, (x1 : Int), (x2 : Int), (x3 : Int), (x4 : Int), (x5 : Int), (x6 : Int), (x7 : Int), (x8 : Int)] (xs : Int) [d0, d1, d2, d3, d4, d5, d6, d7, d8, d9, d10, d11] (xp : Int) (xq : Int))) rfl rfl 44 _ K5.out.2.1 info24 rfl (cellsI_one _) ?_))
                  refine bodyPost_ret (v := .tuple #[.agg (cellsI (inoI [z0, (x1 : Int), (x2 : Int), (x3 : Int), (x4 : Int), (x5 : Int), (x6 : Int), (x7 : Int), (x8 : Int)] (xs : Int) [d0, d1, d2, d3, d4, d5, d6, d7, d8, d9, d10, d11] (xp : Int) (xq : Int))), .int .i64 0]) ?_ rfl ⟨rfl, below_setRow K5.out.2.2.1 (Nat.le_refl _) _⟩
                  exact results_row_tmp rfl _ _ w.heap.size 44 (cellsI (inoI [z0, (x1 : Int), (x2 : Int), (x3 : Int), (x4 : Int), (x5 : Int), (x6 : Int), (x7 : Int), (x8 : Int)] (xs : Int) [d0, d1, d2, d3, d4, d5, d6, d7, d8, d9, d10, d11] (xp : Int) (xq : Int))) (0, 0) _ _ rfl rfl (K5.out.2.1.row _) Tryd.underlying44 rfl info24
                | false =>
                  have hne : ¬ (strOfNums (encI z0 (x1 : Int) (x2 : Int) (x3 : Int) (x4 : Int) (x5 : Int) (x6 : Int) (x7 : Int) (x8 : Int) (xs : Int) [d0, d1, d2, d3, d4, d5, d6, d7, d8, d9, d10, d11] (xp : Int) (xq : Int))).toList = (strOfNums zs).toList := fun h => by
                    have h1 := strOf_inj HRB.out.2.2.1 HRB.out.2.2.2 h
                    have h2 := HRB.out.2.1
                    rw [decide_eq_true h1] at h2
                    cases h2
                  rw [hl] at v2 ⊢
                  generalize strOfNums zs = S1 at v1 hne
                  generalize strOfNums (encI z0 (x1 : Int) (x2 : Int) (x3 : Int) (x4 : Int) (x5 : Int) (x6 : Int) (x7 : Int) (x8 : Int) (xs : Int) [d0, d1, d2, d3, d4, d5, d6, d7, d8, d9, d10, d11] (xp : Int) (xq : Int)) = S2 at v2 hne
                  have hne1 : (S2.toList == S1.toList) = false := by simpa using hne
                  clear hne
                  clear hcell5 o5 hc hl
                  go_wp2_with (refine wpList_store_row rfl 44 _ _ rfl w.heap.size #[.int .i64 0, .int .i64 0, .int .i64 0, .int .i64 0, .int .i64 0, .int .i64 0, .int .i64 0, .int .i64 0, .int .i64 0, .int .i64 0, .int .i64 0, .int .i64 0, .int .i64 0, .int .i64 0, .int .i64 0, .int .i64 0, .int .i64 0, .int .i64 0, .int .i64 0, .int .i64 0, .int .i64 0, .int .i64 0, .int .i64 0, .int .i64 0] rfl rfl 44 _ K5.out.2.1 info24 rfl (cellsI_one noIno) ?_)
                  refine bodyPost_ret (v := .tuple #[.agg (cellsI noIno), .int .i64 21]) ?_ rfl ⟨rfl, below_setRow K5.out.2.2.1 (Nat.le_refl _) _⟩
                  exact results_row_tmp rfl _ _ w.heap.size 44 (cellsI noIno) (0, 0) _ _ rfl rfl (K5.out.2.1.row _) Tryd.underlying44 rfl info24
          · go_simp
            have hH6 := held_alloc hH (.cells #[.int .i64 0, .int .i64 0, .int .i64 0, .int .i64 0, .int .i64 0, .int .i64 0, .int .i64 0, .int .i64 0, .int .i64 0, .int .i64 0, .int .i64 0, .int .i64 0, .int .i64 0, .int .i64 0, .int .i64 0, .int .i64 0, .int .i64 0, .int .i64 0, .int .i64 0, .int .i64 0, .int .i64 0, .int .i64 0, .int .i64 0, .int .i64 0] 44)
            refine hK.out _ _ hH6 (fun hH7 => ?_)
            clear hK K hH hH7
            have hH := hH6
            clear hH6
            try simp only [Act.put, List.setIfInBounds_toArray, List.set_cons_zero, List.set_cons_succ]
            refine wpAnyH_ready (rs := [18]) (by kernel_rfl) (by simp) ?_
            refine AllReadyH.cons (o := _) rfl (fun K hK => ?_) AllReadyH.nil
            go_simp
            refine (HC5.out _ hH).mono ?_
            rintro e w1 ⟨rfl, rfl⟩
            refine hK.out _ _ hH (fun hH2 => ?_)
            clear hK K hH2
            try simp only [Act.put, List.setIfInBounds_toArray, List.set_cons_zero, List.set_cons_succ]
            refine wpAnyH_ready (rs := [21]) (by kernel_rfl) (by simp) ?_
            refine AllReadyH.cons (o := _) rfl (fun K hK => ?_) AllReadyH.nil
            go_simp
            refine (HC6.out _ hH).mono ?_
            rintro e w1 ⟨rfl, rfl⟩
            refine hK.out _ _ hH (fun hH2 => ?_)
            clear hK K hH2
            try simp only [Act.put, List.setIfInBounds_toArray, List.set_cons_zero, List.set_cons_succ]
            refine wpAnyH_ready (rs := [24]) (by kernel_rfl) (by simp) ?_
            refine AllReadyH.cons (o := _) rfl (fun K hK => ?_) AllReadyH.nil
            go_simp
            refine (HC7.out _ hH).mono ?_
            rintro e w1 ⟨rfl, rfl⟩
            refine hK.out _ _ hH (fun hH2 => ?_)
            clear hK K hH2
            try simp only [Act.put, List.setIfInBounds_toArray, List.set_cons_zero, List.set_cons_succ]
            refine wpAnyH_ready (rs := [27]) (by kernel_rfl) (by simp) ?_
            refine AllReadyH.cons (o := _) rfl (fun K hK => ?_) AllReadyH.nil
            go_simp
            refine (HC8.out _ hH).mono ?_
            rintro e w1 ⟨rfl, rfl⟩
            refine hK.out _ _ hH (fun hH2 => ?_)
            clear hK K hH2
            try simp only [Act.put, List.setIfInBounds_toArray, List.set_cons_zero, List.set_cons_succ]
            refine wpAnyH_ready (rs := [30]) (by kernel_rfl) (by simp) ?_
            refine AllReadyH.cons (o := _) rfl (fun K hK => ?_) AllReadyH.nil
            go_simp
            refine (HC9.out _ hH).mono ?_
            rintro e w2 ⟨rfl, b2⟩
            have KG := hide (show Blk w2 W.heap.size (cellsI noIno) 44 from Blk.below (Blk.new W.drew #[.int .i64 0, .int .i64 0, .int .i64 0, .int .i64 0, .int .i64 0, .int .i64 0, .int .i64 0, .int .i64 0, .int .i64 0, .int .i64 0, .int .i64 0, .int .i64 0, .int .i64 0, .int .i64 0, .int .i64 0, .int .i64 0, .int .i64 0, .int .i64 0, .int .i64 0, .int .i64 0, .int .i64 0, .int .i64 0, .int .i64 0, .int .i64 0] 44) b2 (by show W.heap.size < (W.drew.alloc _).heap.size; simp))
            have hH2 : Below W.heap.size W w2 := held_next hH b2
            refine hK.out _ _ hH2 (fun hH3 => ?_)
            clear hK K hH b2 hH3
            try simp only [Act.put, List.setIfInBounds_toArray, List.set_cons_zero, List.set_cons_succ]
            refine wpAnyH_take (i := 31) (oi := _) (v := .agg #[.int .i64 z0, .int .i64 (x1 : Int), .int .i64 (x2 : Int), .int .i64 (x3 : Int), .int .i64 (x4 : Int), .int .i64 (x5 : Int), .int .i64 (x6 : Int), .int .i64 (x7 : Int), .int .i64 (x8 : Int), .int .i64 (xs : Int), .int .i64 d0, .int .i64 d1, .int .i64 d2, .int .i64 d3, .int .i64 d4, .int .i64 d5, .int .i64 d6, .int .i64 d7, .int .i64 d8, .int .i64 d9, .int .i64 d10, .int .i64 d11, .int .i64 (xp : Int), .int .i64 (xq : Int)]) rfl (by kernel_rfl) (by kernel_rfl) (by kernel_rfl) (fun _ _ _ h => h) (Or.inl ⟨by rfl, fun w' hw' => by go_simp⟩) hH2 ?_
            try simp only [Act.put, List.setIfInBounds_toArray, List.set_cons_zero, List.set_cons_succ]
            refine wpAnyH_ready (rs := [33]) (by kernel_rfl) (by simp) ?_
            refine AllReadyH.cons (o := _) rfl (fun K hK => ?_) AllReadyH.nil
            rw [if_pos (by rfl)]
            refine wp_store_row 44 _ _ rfl W.heap.size (cellsI (inoI [z0, (x1 : Int), (x2 : Int), (x3 : Int), (x4 : Int), (x5 : Int), (x6 : Int), (x7 : Int), (x8 : Int)] (xs : Int) [d0, d1, d2, d3, d4, d5, d6, d7, d8, d9, d10, d11] (xp : Int) (xq : Int))) rfl rfl 44 _ KG.out info24 rfl (cellsI_one _) ?_
            have hH4 : Below W.heap.size W (w2.setRow W.heap.size (cellsI (inoI [z0, (x1 : Int), (x2 : Int), (x3 : Int), (x4 : Int), (x5 : Int), (x6 : Int), (x7 : Int), (x8 : Int)] (xs : Int) [d0, d1, d2, d3, d4, d5, d6, d7, d8, d9, d10, d11] (xp : Int) (xq : Int)))) := below_setRow hH2 (by first | exact Nat.le_refl _ | exact Nat.le_refl _) _
            have KQ4 := hide (show Blk (w2.setRow W.heap.size (cellsI (inoI [z0, (x1 : Int), (x2 : Int), (x3 : Int), (x4 : Int), (x5 : Int), (x6 : Int), (x7 : Int), (x8 : Int)] (xs : Int) [d0, d1, d2, d3, d4, d5, d6, d7, d8, d9, d10, d11] (xp : Int) (xq : Int)))) W.heap.size (cellsI (inoI [z0, (x1 : Int), (x2 : Int), (x3 : Int), (x4 : Int), (x5 : Int), (x6 : Int), (x7 : Int), (x8 : Int)] (xs : Int) [d0, d1, d2, d3, d4, d5, d6, d7, d8, d9, d10, d11] (xp : Int) (xq : Int))) 44 from (KG.out).row _)
            refine hK.out _ _ hH4 (fun hH5 => ?_)
            clear hK K hH5
            try simp only [Act.put, List.setIfInBounds_toArray, List.set_cons_zero, List.set_cons_succ]
            refine wpAnyH_done (by kernel_rfl) (NoPanic.normal ?_) _
            have HB4 := hide hH4
            generalize hW4 : w2.setRow W.heap.size (cellsI (inoI [z0, (x1 : Int), (x2 : Int), (x3 : Int), (x4 : Int), (x5 : Int), (x6 : Int), (x7 : Int), (x8 : Int)] (xs : Int) [d0, d1, d2, d3, d4, d5, d6, d7, d8, d9, d10, d11] (xp : Int) (xq : Int))) = w4 at HB4 KQ4 ⊢
            clear hW4 hH4 hH2
            generalize W.heap.size = gg at KQ4 ⊢
            have KN4 := hide (show Blk w4 w.heap.size (cellsI noIno) 44 from KB0.out.below HB4.out hlw)
            have B4 := hide (HB0.out.trans (HB4.out.mono HB0.out.size))
            go_wp2_with (first | (refine wpList_load_row rfl 44 _ rfl gg rfl 44 (cellsI (inoI [z0, (x1 : Int), (x2 : Int), (x3 : Int), (x4 : Int), (x5 : Int), (x6 : Int), (x7 : Int), (x8 : Int)] (xs : Int) [d0, d1, d2, d3, d4, d5, d6, d7, d8, d9, d10, d11] (xp : Int) (xq : Int))) (0, 0) _ KQ4.out Tryd.underlying44 rfl info24 ?_) | (go_at_call 56; fail))
            refine (specI_any z0 (x1 : Int) (x2 : Int) (x3 : Int) (x4 : Int) (x5 : Int) (x6 : Int) (x7 : Int) (x8 : Int) (xs : Int) [d0, d1, d2, d3, d4, d5, d6, d7, d8, d9, d10, d11] (xp : Int) (xq : Int) _ rfl).mono ?_
            rintro e w5 ⟨v5, rfl, o5, b5⟩
            have K5 := hide (And.intro (KQ4.out.below b5 KQ4.out.lt) (And.intro (KN4.out.below b5 KN4.out.lt) (And.intro (B4.out.trans (b5.mono B4.out.size)) (HB4.out.trans (b5.mono HB4.out.size)))))
            have O5 := hide o5
            clear b5 o5 KN4 B4 KQ4 HB4
            cases r with
            | false =>
              have hc : codeI z0 (x1 : Int) (x2 : Int) (x3 : Int) (x4 : Int) (x5 : Int) (x6 : Int) (x7 : Int) (x8 : Int) (xs : Int) [d0, d1, d2, d3, d4, d5, d6, d7, d8, d9, d10, d11] (xp : Int) (xq : Int) = 7 := by unfold codeI; rw [HRB.out.1]; rfl
              rw [hc]
              go_wp2_with (refine wpList_store_row rfl 44 _ _ rfl w.heap.size #[.int .i64 0, .int .i64 0, .int .i64 0, .int .i64 0, .int .i64 0, .int .i64 0, .int .i64 0, .int .i64 0, .int .i64 0, .int .i64 0, .int .i64 0, .int .i64 0, .int .i64 0, .int .i64 0, .int .i64 0, .int .i64 0, .int .i64 0, .int .i64 0, .int .i64 0, .int .i64 0, .int .i64 0, .int .i64 0, .int .i64 0, .int .i64 0] rfl rfl 44 _ K5.out.2.1 info24 rfl (cellsI_one noIno) ?_)
              refine bodyPost_ret (v := .tuple #[.agg (cellsI noIno), .int .i64 21]) ?_ rfl ⟨rfl, below_setRow K5.out.2.2.1 (Nat.le_refl _) _⟩
              exact results_row_tmp rfl _ _ w.heap.size 44 (cellsI noIno) (0, 0) _ _ rfl rfl (K5.out.2.1.row _) Tryd.underlying44 rfl info24
            | true =>
              have hc : codeI z0 (x1 : Int) (x2 : Int) (x3 : Int) (x4 : Int) (x5 : Int) (x6 : Int) (x7 : Int) (x8 : Int) (xs : Int) [d0, d1, d2, d3, d4, d5, d6, d7, d8, d9, d10, d11] (xp : Int) (xq : Int) = 0 := by unfold codeI; rw [HRB.out.1]; rfl
              have hl : (encI z0 (x1 : Int) (x2 : Int) (x3 : Int) (x4 : Int) (x5 : Int) (x6 : Int) (x7 : Int) (x8 : Int) (xs : Int) [d0, d1, d2, d3, d4, d5, d6, d7, d8, d9, d10, d11] (xp : Int) (xq : Int)).length = 128 := by unfold encI; rw [if_pos HRB.out.1]; exact bytesIno_len _ _ _ _ _ _ _ _ _ _ _ _ _ rfl
              rw [hc]
              have o5 := O5.out
              obtain ⟨g5, of5, cp5, rfl, hg5, _, _, hcell5⟩ := (Rd.own o5).partsC (by rw [hl]; omega)
              have v1 := run_convert_bytes_arg (P := Tryd.prog) w5 24 5 Tryd.underlying24 Tryd.underlying5 bd off 128 cap zs HZ0.out (HCell.out w5 K5.out.2.2.2) 9 Tryd.underlying9
              have v2 := run_convert_bytes_arg (P := Tryd.prog) w5 24 5 Tryd.underlying24 Tryd.underlying5 g5 of5 (encI z0 (x1 : Int) (x2 : Int) (x3 : Int) (x4 : Int) (x5 : Int) (x6 : Int) (x7 : Int) (x8 : Int) (xs : Int) [d0, d1, d2, d3, d4, d5, d6, d7, d8, d9, d10, d11] (xp : Int) (xq : Int)).length cp5 (encI z0 (x1 : Int) (x2 : Int) (x3 : Int) (x4 : Int) (x5 : Int) (x6 : Int) (x7 : Int) (x8 : Int) (xs : Int) [d0, d1, d2, d3, d4, d5, d6, d7, d8, d9, d10, d11] (xp : Int) (xq : Int)) rfl hcell5 9 Tryd.underlying9
              cases b with
              | true =>
                have he : (encI z0 (x1 : Int) (x2 : Int) (x3 : Int) (x4 : Int) (x5 : Int) (x6 : Int) (x7 : Int) (x8 : Int) (xs : Int) [d0, d1, d2, d3, d4, d5, d6, d7, d8, d9, d10, d11] (xp : Int) (xq : Int)) = zs := by simpa using HRB.out.2.1
                rw [he] at v2 ⊢
                rw [HZ0.out] at v2 ⊢
                generalize strOfNums zs = S at v1 v2
                clear hcell5 o5 he hc hl
                go_wp2_with (first | (refine wpList_load_row rfl 44 _ rfl gg rfl 44 (cellsI (inoI [z0, (x1 : Int), (x2 : Int), (x3 : Int), (x4 : Int), (x5 : Int), (x6 : Int), (x7 : Int), (x8 : Int)] (xs : Int) [d0, d1, d2, d3, d4, d5, d6, d7, d8, d9, d10, d11] (xp : Int) (xq : Int))) (0, 0) _ K5.out.1 Tryd.underlying44 rfl info24 ?_) | (refine wpList_store_row rfl 44 _ _ rfl w.heap.size (cellsI (inoI [z0, (x1 : Int), (x2 : Int), (x3 : Int), (x4 : Int), (x5 : Int), (x6 : Int), (x7 : Int), (x8 : Int)] (xs : Int) [d0, d1, d2, d3, d4, d5, d6, d7, d8, d9, d10, d11] (xp : Int) (xq : Int))) rfl rfl 44 _ K5.out.2.1 info24 rfl (cellsI_one _) ?_))
                refine bodyPost_ret (v := .tuple #[.agg (cellsI (inoI [z0, (x1 : Int), (x2 : Int), (x3 : Int), (x4 : Int), (x5 : Int), (x6 : Int), (x7 : Int), (x8 : Int)] (xs : Int) [d0, d1, d2, d3, d4, d5, d6, d7, d8, d9, d10, d11] (xp : Int) (xq : Int))), .int .i64 0]) ?_ rfl ⟨rfl, below_setRow K5.out.2.2.1 (Nat.le_refl _) _⟩
                exact results_row_tmp rfl _ _ w.heap.size 44 (cellsI (inoI [z0, (x1 : Int), (x2 : Int), (x3 : Int), (x4 : Int), (x5 : Int), (x6 : Int), (x7 : Int), (x8 : Int)] (xs : Int) [d0, d1, d2, d3, d4, d5, d6, d7, d8, d9, d10, d11] (xp : Int) (xq : Int))) (0, 0) _ _ rfl rfl (K5.out.2.1.row _) Tryd.underlying44 rfl info24
              | false =>
                have hne : ¬ (strOfNums (encI z0 (x1 : Int) (x2 : Int) (x3 : Int) (x4 : Int) (x5 : Int) (x6 : Int) (x7 : Int) (x8 : Int) (xs : Int) [d0, d1, d2, d3, d4, d5, d6, d7, d8, d9, d10, d11] (xp : Int) (xq : Int))).toList = (strOfNums zs).toList := fun h => by
                  have h1 := strOf_inj HRB.out.2.2.1 HRB.out.2.2.2 h
                  have h2 := HRB.out.2.1
                  rw [decide_eq_true h1] at h2
                  cases h2
                rw [hl] at v2 ⊢
                generalize strOfNums zs = S1 at v1 hne
                generalize strOfNums (encI z0 (x1 : Int) (x2 : Int) (x3 : Int) (x4 : Int) (x5 : Int) (x6 : Int) (x7 : Int) (x8 : Int) (xs : Int) [d0, d1, d2, d3, d4, d5, d6, d7, d8, d9, d10, d11] (xp : Int) (xq : Int)) = S2 at v2 hne
                have hne1 : (S2.toList == S1.toList) = false := by simpa using hne
                clear hne
                clear hcell5 o5 hc hl
                go_wp2_with (refine wpList_store_row rfl 44 _ _ rfl w.heap.size #[.int .i64 0, .int .i64 0, .int .i64 0, .int .i64 0, .int .i64 0, .int .i64 0, .int .i64 0, .int .i64 0, .int .i64 0, .int .i64 0, .int .i64 0, .int .i64 0, .int .i64 0, .int .i64 0, .int .i64 0, .int .i64 0, .int .i64 0, .int .i64 0, .int .i64 0, .int .i64 0, .int .i64 0, .int .i64 0, .int .i64 0, .int .i64 0] rfl rfl 44 _ K5.out.2.1 info24 rfl (cellsI_one noIno) ?_)
                refine bodyPost_ret (v := .tuple #[.agg (cellsI noIno), .int .i64 21]) ?_ rfl ⟨rfl, below_setRow K5.out.2.2.1 (Nat.le_refl _) _⟩
                exact results_row_tmp rfl _ _ w.heap.size 44 (cellsI noIno) (0, 0) _ _ rfl rfl (K5.out.2.1.row _) Tryd.underlying44 rfl info24
        · go_simp
          have hH6 := held_alloc hH (.cells #[.int .i64 0, .int .i64 0, .int .i64 0, .int .i64 0, .int .i64 0, .int .i64 0, .int .i64 0, .int .i64 0, .int .i64 0, .int .i64 0, .int .i64 0, .int .i64 0, .int .i64 0, .int .i64 0, .int .i64 0, .int .i64 0, .int .i64 0, .int .i64 0, .int .i64 0, .int .i64 0, .int .i64 0, .int .i64 0, .int .i64 0, .int .i64 0] 44)
          refine hK.out _ _ hH6 (fun hH7 => ?_)
          clear hK K hH hH7
          have hH := hH6
          clear hH6
          try simp only [Act.put, List.setIfInBounds_toArray, List.set_cons_zero, List.set_cons_succ]
          refine wpAnyH_ready (rs := [15]) (by kernel_rfl) (by simp) ?_
          refine AllReadyH.cons (o := _) rfl (fun K hK => ?_) AllReadyH.nil
          go_simp
          refine (HC4.out _ hH).mono ?_
          rintro e w1 ⟨rfl, rfl⟩
          refine hK.out _ _ hH (fun hH2 => ?_)
          clear hK K hH2
          try simp only [Act.put, List.setIfInBounds_toArray, List.set_cons_zero, List.set_cons_succ]
          refine wpAnyH_ready (rs := [18]) (by kernel_rfl) (by simp) ?_
          refine AllReadyH.cons (o := _) rfl (fun K hK => ?_) AllReadyH.nil
          go_simp
          refine (HC5.out _ hH).mono ?_
          rintro e w1 ⟨rfl, rfl⟩
          refine hK.out _ _ hH (fun hH2 => ?_)
          clear hK K hH2
          try simp only [Act.put, List.setIfInBounds_toArray, List.set_cons_zero, List.set_cons_succ]
          refine wpAnyH_ready (rs := [21]) (by kernel_rfl) (by simp) ?_
          refine AllReadyH.cons (o := _) rfl (fun K hK => ?_) AllReadyH.nil
          go_simp
          refine (HC6.out _ hH).mono ?_
          rintro e w1 ⟨rfl, rfl⟩
          refine hK.out _ _ hH (fun hH2 => ?_)
          clear hK K hH2
          try simp only [Act.put, List.setIfInBounds_toArray, List.set_cons_zero, List.set_cons_succ]
          refine wpAnyH_ready (rs := [24]) (by kernel_rfl) (by simp) ?_
          refine AllReadyH.cons (o := _) rfl (fun K hK => ?_) AllReadyH.nil
          go_simp
          refine (HC7.out _ hH).mono ?_
          rintro e w1 ⟨rfl, rfl⟩
          refine hK.out _ _ hH (fun hH2 => ?_)
          clear hK K hH2
          try simp only [Act.put, List.setIfInBounds_toArray, List.set_cons_zero, List.set_cons_succ]
          refine wpAnyH_ready (rs := [27]) (by kernel_rfl) (by simp) ?_
          refine AllReadyH.cons (o := _) rfl (fun K hK => ?_) AllReadyH.nil
          go_simp
          refine (HC8.out _ hH).mono ?_
          rintro e w1 ⟨rfl, rfl⟩
          refine hK.out _ _ hH (fun hH2 => ?_)
          clear hK K hH2
          try simp only [Act.put, List.setIfInBounds_toArray, List.set_cons_zero, List.set_cons_succ]
          refine wpAnyH_ready (rs := [30]) (by kernel_rfl) (by simp) ?_
          refine AllReadyH.cons (o := _) rfl (fun K hK => ?_) AllReadyH.nil
          go_simp
          refine (HC9.out _ hH).mono ?_
          rintro e w2 ⟨rfl, b2⟩
          have KG := hide (show Blk w2 W.heap.size (cellsI noIno) 44 from Blk.below (Blk.new W.drew #[.int .i64 0, .int .i64 0, .int .i64 0, .int .i64 0, .int .i64 0, .int .i64 0, .int .i64 0, .int .i64 0, .int .i64 0, .int .i64 0, .int .i64 0, .int .i64 0, .int .i64 0, .int .i64 0, .int .i64 0, .int .i64 0, .int .i64 0, .int .i64 0, .int .i64 0, .int .i64 0, .int .i64 0, .int .i64 0, .int .i64 0, .int .i64 0] 44) b2 (by show W.heap.size < (W.drew.alloc _).heap.size; simp))
          have hH2 : Below W.heap.size W w2 := held_next hH b2
          refine hK.out _ _ hH2 (fun hH3 => ?_)
          clear hK K hH b2 hH3
          try simp only [Act.put, List.setIfInBounds_toArray, List.set_cons_zero, List.set_cons_succ]
          refine wpAnyH_take (i := 31) (oi := _) (v := .agg #[.int .i64 z0, .int .i64 (x1 : Int), .int .i64 (x2 : Int), .int .i64 (x3 : Int), .int .i64 (x4 : Int), .int .i64 (x5 : Int), .int .i64 (x6 : Int), .int .i64 (x7 : Int), .int .i64 (x8 : Int), .int .i64 (xs : Int), .int .i64 d0, .int .i64 d1, .int .i64 d2, .int .i64 d3, .int .i64 d4, .int .i64 d5, .int .i64 d6, .int .i64 d7, .int .i64 d8, .int .i64 d9, .int .i64 d10, .int .i64 d11, .int .i64 (xp : Int), .int .i64 (xq : Int)]) rfl (by kernel_rfl) (by kernel_rfl) (by kernel_rfl) (fun _ _ _ h => h) (Or.inl ⟨by rfl, fun w' hw' => by go_simp⟩) hH2 ?_
          try simp only [Act.put, List.setIfInBounds_toArray, List.set_cons_zero, List.set_cons_succ]
          refine wpAnyH_ready (rs := [33]) (by kernel_rfl) (by simp) ?_
          refine AllReadyH.cons (o := _) rfl (fun K hK => ?_) AllReadyH.nil
          rw [if_pos (by rfl)]
          refine wp_store_row 44 _ _ rfl W.heap.size (cellsI (inoI [z0, (x1 : Int), (x2 : Int), (x3 : Int), (x4 : Int), (x5 : Int), (x6 : Int), (x7 : Int), (x8 : Int)] (xs : Int) [d0, d1, d2, d3, d4, d5, d6, d7, d8, d9, d10, d11] (xp : Int) (xq : Int))) rfl rfl 44 _ KG.out info24 rfl (cellsI_one _) ?_
          have hH4 : Below W.heap.size W (w2.setRow W.heap.size (cellsI (inoI [z0, (x1 : Int), (x2 : Int), (x3 : Int), (x4 : Int), (x5 : Int), (x6 : Int), (x7 : Int), (x8 : Int)] (xs : Int) [d0, d1, d2, d3, d4, d5, d6, d7, d8, d9, d10, d11] (xp : Int) (xq : Int)))) := below_setRow hH2 (by first | exact Nat.le_refl _ | exact Nat.le_refl _) _
          have KQ4 := hide (show Blk (w2.setRow W.heap.size (cellsI (inoI [z0, (x1 : Int), (x2 : Int), (x3 : Int), (x4 : Int), (x5 : Int), (x6 : Int), (x7 : Int), (x8 : Int)] (xs : Int) [d0, d1, d2, d3, d4, d5, d6, d7, d8, d9, d10, d11] (xp : Int) (xq : Int)))) W.heap.size (cellsI (inoI [z0, (x1 : Int), (x2 : Int), (x3 : Int), (x4 : Int), (x5 : Int), (x6 : Int), (x7 : Int), (x8 : Int)] (xs : Int) [d0, d1, d2, d3, d4, d5, d6, d7, d8, d9, d10, d11] (xp : Int) (xq : Int))) 44 from (KG.out).row _)
          refine hK.out _ _ hH4 (fun hH5 => ?_)
          clear hK K hH5
          try simp only [Act.put, List.setIfInBounds_toArray, List.set_cons_zero, List.set_cons_succ]
          refine wpAnyH_done (by kernel_rfl) (NoPanic.normal ?_) _
          have HB4 := hide hH4
          generalize hW4 : w2.setRow W.heap.size (cellsI (inoI [z0, (x1 : Int), (x2 : Int), (x3 : Int), (x4 : Int), (x5 : Int), (x6 : Int), (x7 : Int), (x8 : Int)] (xs : Int) [d0, d1, d2, d3, d4, d5, d6, d7, d8, d9, d10, d11] (xp : Int) (xq : Int))) = w4 at HB4 KQ4 ⊢
          clear hW4 hH4 hH2
          generalize W.heap.size = gg at KQ4 ⊢
          have KN4 := hide (show Blk w4 w.heap.size (cellsI noIno) 44 from KB0.out.below HB4.out hlw)
          have B4 := hide (HB0.out.trans (HB4.out.mono HB0.out.size))
          go_wp2_with (first | (refine wpList_load_row rfl 44 _ rfl gg rfl 44 (cellsI (inoI [z0, (x1 : Int), (x2 : Int), (x3 : Int), (x4 : Int), (x5 : Int), (x6 : Int), (x7 : Int), (x8 : Int)] (xs : Int) [d0, d1, d2, d3, d4, d5, d6, d7, d8, d9, d10, d11] (xp : Int) (xq : Int))) (0, 0) _ KQ4.out Tryd.underlying44 rfl info24 ?_) | (go_at_call 56; fail))
          refine (specI_any z0 (x1 : Int) (x2 : Int) (x3 : Int) (x4 : Int) (x5 : Int) (x6 : Int) (x7 : Int) (x8 : Int) (xs : Int) [d0, d1, d2, d3, d4, d5, d6, d7, d8, d9, d10, d11] (xp : Int) (xq : Int) _ rfl).mono ?_
          rintro e w5 ⟨v5, rfl, o5, b5⟩
          have K5 := hide (And.intro (KQ4.out.below b5 KQ4.out.lt) (And.intro (KN4.out.below b5 KN4.out.lt) (And.intro (B4.out.trans (b5.mono B4.out.size)) (HB4.out.trans (b5.mono HB4.out.size)))))
          have O5 := hide o5
          clear b5 o5 KN4 B4 KQ4 HB4
          cases r with
          | false =>
            have hc : codeI z0 (x1 : Int) (x2 : Int) (x3 : Int) (x4 : Int) (x5 : Int) (x6 : Int) (x7 : Int) (x8 : Int) (xs : Int) [d0, d1, d2, d3, d4, d5, d6, d7, d8, d9, d10, d11] (xp : Int) (xq : Int) = 7 := by unfold codeI; rw [HRB.out.1]; rfl
            rw [hc]
            go_wp2_with (refine wpList_store_row rfl 44 _ _ rfl w.heap.size #[.int .i64 0, .int .i64 0, .int .i64 0, .int .i64 0, .int .i64 0, .int .i64 0, .int .i64 0, .int .i64 0, .int .i64 0, .int .i64 0, .int .i64 0, .int .i64 0, .int .i64 0, .int .i64 0, .int .i64 0, .int .i64 0, .int .i64 0, .int .i64 0, .int .i64 0, .int .i64 0, .int .i64 0, .int .i64 0, .int .i64 0, .int .i64 0] rfl rfl 44 _ K5.out.2.1 info24 rfl (cellsI_one noIno) ?_)
            refine bodyPost_ret (v := .tuple #[.agg (cellsI noIno), .int .i64 21]) ?_ rfl ⟨rfl, below_setRow K5.out.2.2.1 (Nat.le_refl _) _⟩
            exact results_row_tmp rfl _ _ w.heap.size 44 (cellsI noIno) (0, 0) _ _ rfl rfl (K5.out.2.1.row _) Tryd.underlying44 rfl info24
          | true =>
            have hc : codeI z0 (x1 : Int) (x2 : Int) (x3 : Int) (x4 : Int) (x5 : Int) (x6 : Int) (x7 : Int) (x8 : Int) (xs : Int) [d0, d1, d2, d3, d4, d5, d6, d7, d8, d9, d10, d11] (xp : Int) (xq : Int) = 0 := by unfold codeI; rw [HRB.out.1]; rfl
            have hl : (encI z0 (x1 : Int) (x2 : Int) (x3 : Int) (x4 : Int) (x5 : Int) (x6 : Int) (x7 : Int) (x8 : Int) (xs : Int) [d0, d1, d2, d3, d4, d5, d6, d7, d8, d9, d10, d11] (xp : Int) (xq : Int)).length = 128 := by unfold encI; rw [if_pos HRB.out.1]; exact bytesIno_len _ _ _ _ _ _ _ _ _ _ _ _ _ rfl
            rw [hc]
            have o5 := O5.out
            obtain ⟨g5, of5, cp5, rfl, hg5, _, _, hcell5⟩ := (Rd.own o5).partsC (by rw [hl]; omega)
            have v1 := run_convert_bytes_arg (P := Tryd.prog) w5 24 5 Tryd.underlying24 Tryd.underlying5 bd off 128 cap zs HZ0.out (HCell.out w5 K5.out.2.2.2) 9 Tryd.underlying9
            have v2 := run_convert_bytes_arg (P := Tryd.prog) w5 24 5 Tryd.underlying24 Tryd.underlying5 g5 of5 (encI z0 (x1 : Int) (x2 : Int) (x3 : Int) (x4 : Int) (x5 : Int) (x6 : Int) (x7 : Int) (x8 : Int) (xs : Int) [d0, d1, d2, d3, d4, d5, d6, d7, d8, d9, d10, d11] (xp : Int) (xq : Int)).length cp5 (encI z0 (x1 : Int) (x2 : Int) (x3 : Int) (x4 : Int) (x5 : Int) (x6 : Int) (x7 : Int) (x8 : Int) (xs : Int) [d0, d1, d2, d3, d4, d5, d6, d7, d8, d9, d10, d11] (xp : Int) (xq : Int)) rfl hcell5 9 Tryd.underlying9
            cases b with
            | true =>
              have he : (encI z0 (x1 : Int) (x2 : Int) (x3 : Int) (x4 : Int) (x5 : Int) (x6 : Int) (x7 : Int) (x8 : Int) (xs : Int) [d0, d1, d2, d3, d4, d5, d6, d7, d8, d9, d10, d11] (xp : Int) (xq : Int)) = zs := by simpa using HRB.out.2.1
              rw [he] at v2 ⊢
              rw [HZ0.out] at v2 ⊢
              generalize strOfNums zs = S at v1 v2
              clear hcell5 o5 he hc hl
              go_wp2_with (first | (refine wpList_load_row rfl 44 _ rfl gg rfl 44 (cellsI (inoI [z0, (x1 : Int), (x2 : Int), (x3 : Int), (x4 : Int), (x5 : Int), (x6 : Int), (x7 : Int), (x8 : Int)] (xs : Int) [d0, d1, d2, d3, d4, d5, d6, d7, d8, d9, d10, d11] (xp : Int) (xq : Int))) (0, 0) _ K5.out.1 Tryd.underlying44 rfl info24 ?_) | (refine wpList_store_row rfl 44 _ _ rfl w.heap.size (cellsI (inoI [z0, (x1 : Int), (x2 : Int), (x3 : Int), (x4 : Int), (x5 : Int), (x6 : Int), (x7 : Int), (x8 : Int)] (xs : Int) [d0, d1, d2, d3, d4, d5, d6, d7, d8, d9, d10, d11] (xp : Int) (xq : Int))) rfl rfl 44 _ K5.out.2.1 info24 rfl (cellsI_one _) ?_))
              refine bodyPost_ret (v := .tuple #[.agg (cellsI (inoI [z0, (x1 : Int), (x2 : Int), (x3 : Int), (x4 : Int), (x5 : Int), (x6 : Int), (x7 : Int), (x8 : Int)] (xs : Int) [d0, d1, d2, d3, d4, d5, d6, d7, d8, d9, d10, d11] (xp : Int) (xq : Int))), .int .i64 0]) ?_ rfl ⟨rfl, below_setRow K5.out.2.2.1 (Nat.le_refl _) _⟩
              exact results_row_tmp rfl _ _ w.heap.size 44 (cellsI (inoI [z0, (x1 : Int), (x2 : Int), (x3 : Int), (x4 : Int), (x5 : Int), (x6 : Int), (x7 : Int), (x8 : Int)] (xs : Int) [d0, d1, d2, d3, d4, d5, d6, d7, d8, d9, d10, d11] (xp : Int) (xq : Int))) (0, 0) _ _ rfl rfl (K5.out.2.1.row _) Tryd.underlying44 rfl info24
            | false =>
              have hne : ¬ (strOfNums (encI z0 (x1 : Int) (x2 : Int) (x3 : Int) (x4 : Int) (x5 : Int) (x6 : Int) (x7 : Int) (x8 : Int) (xs : Int) [d0, d1, d2, d3, d4, d5, d6, d7, d8, d9, d10, d11] (xp : Int) (xq : Int))).toList = (strOfNums zs).toList := fun h => by
                have h1 := strOf_inj HRB.out.2.2.1 HRB.out.2.2.2 h
                have h2 := HRB.out.2.1
                rw [decide_eq_true h1] at h2
                cases h2
              rw [hl] at v2 ⊢
              generalize strOfNums zs = S1 at v1 hne
              generalize strOfNums (encI z0 (x1 : Int) (x2 : Int) (x3 : Int) (x4 : Int) (x5 : Int) (x6 : Int) (x7 : Int) (x8 : Int) (xs : Int) [d0, d1, d2, d3, d4, d5, d6, d7, d8, d9, d10, d11] (xp : Int) (xq : Int)) = S2 at v2 hne
              have hne1 : (S2.toList == S1.toList) = false := by simpa using hne
              clear hne
              clear hcell5 o5 hc hl
              go_wp2_with (refine wpList_store_row rfl 44 _ _ rfl w.heap.size #[.int .i64 0, .int .i64 0, .int .i64 0, .int .i64 0, .int .i64 0, .int .i64 0, .int .i64 0, .int .i64 0, .int .i64 0, .int .i64 0, .int .i64 0, .int .i64 0, .int .i64 0, .int .i64 0, .int .i64 0, .int .i64 0, .int .i64 0, .int .i64 0, .int .i64 0, .int .i64 0, .int .i64 0, .int .i64 0, .int .i64 0, .int .i64 0] rfl rfl 44 _ K5.out.2.1 info24 rfl (cellsI_one noIno) ?_)
              refine bodyPost_ret (v := .tuple #[.agg (cellsI noIno), .int .i64 21]) ?_ rfl ⟨rfl, below_setRow K5.out.2.2.1 (Nat.le_refl _) _⟩
              exact results_row_tmp rfl _ _ w.heap.size 44 (cellsI noIno) (0, 0) _ _ rfl rfl (K5.out.2.1.row _) Tryd.underlying44 rfl info24
      · go_simp
        have hH6 := held_alloc hH (.cells #[.int .i64 0, .int .i64 0, .int .i64 0, .int .i64 0, .int .i64 0, .int .i64 0, .int .i64 0, .int .i64 0, .int .i64 0, .int .i64 0, .int .i64 0, .int .i64 0, .int .i64 0, .int .i64 0, .int .i64 0, .int .i64 0, .int .i64 0, .int .i64 0, .int .i64 0, .int .i64 0, .int .i64 0, .int .i64 0, .int .i64 0, .int .i64 0] 44)
        refine hK.out _ _ hH6 (fun hH7 => ?_)
        clear hK K hH hH7
        have hH := hH6
        clear hH6
        try simp only [Act.put, List.setIfInBounds_toArray, List.set_cons_zero, List.set_cons_succ]
        refine wpAnyH_ready (rs := [12]) (by kernel_rfl) (by simp) ?_
        refine AllReadyH.cons (o := _) rfl (fun K hK => ?_) AllReadyH.nil
        go_simp
        refine (HC3.out _ hH).mono ?_
        rintro e w1 ⟨rfl, rfl⟩
        refine hK.out _ _ hH (fun hH2 => ?_)
        clear hK K hH2
        try simp only [Act.put, List.setIfInBounds_toArray, List.set_cons_zero, List.set_cons_succ]
        refine wpAnyH_ready (rs := [15]) (by kernel_rfl) (by simp) ?_
        refine AllReadyH.cons (o := _) rfl (fun K hK => ?_) AllReadyH.nil
        go_simp
        refine (HC4.out _ hH).mono ?_
        rintro e w1 ⟨rfl, rfl⟩
        refine hK.out _ _ hH (fun hH2 => ?_)
        clear hK K hH2
        try simp only [Act.put, List.setIfInBounds_toArray, List.set_cons_zero, List.set_cons_succ]
        refine wpAnyH_ready (rs := [18]) (by kernel_rfl) (by simp) ?_
        refine AllReadyH.cons (o := _) rfl (fun K hK => ?_) AllReadyH.nil
        go_simp
        refine (HC5.out _ hH).mono ?_
        rintro e w1 ⟨rfl, rfl⟩
        refine hK.out _ _ hH (fun hH2 => ?_)
        clear hK K hH2
        try simp only [Act.put, List.setIfInBounds_toArray, List.set_cons_zero, List.set_cons_succ]
        refine wpAnyH_ready (rs := [21]) (by kernel_rfl) (by simp) ?_
        refine AllReadyH.cons (o := _) rfl (fun K hK => ?_) AllReadyH.nil
        go_simp
        refine (HC6.out _ hH).mono ?_
        rintro e w1 ⟨rfl, rfl⟩
        refine hK.out _ _ hH (fun hH2 => ?_)
        clear hK K hH2
        try simp only [Act.put, List.setIfInBounds_toArray, List.set_cons_zero, List.set_cons_succ]
        refine wpAnyH_ready (rs := [24]) (by kernel_rfl) (by simp) ?_
        refine AllReadyH.cons (o := _) rfl (fun K hK => ?_) AllReadyH.nil
        go_simp
        refine (HC7.out _ hH).mono ?_
        rintro e w1 ⟨rfl, rfl⟩
        refine hK.out _ _ hH (fun hH2 => ?_)
        clear hK K hH2
        try simp only [Act.put, List.setIfInBounds_toArray, List.set_cons_zero, List.set_cons_succ]
        refine wpAnyH_ready (rs := [27]) (by kernel_rfl) (by simp) ?_
        refine AllReadyH.cons (o := _) rfl (fun K hK => ?_) AllReadyH.nil
        go_simp
        refine (HC8.out _ hH).mono ?_
        rintro e w1 ⟨rfl, rfl⟩
        refine hK.out _ _ hH (fun hH2 => ?_)
        clear hK K hH2
        try simp only [Act.put, List.setIfInBounds_toArray, List.set_cons_zero, List.set_cons_succ]
        refine wpAnyH_ready (rs := [30]) (by kernel_rfl) (by simp) ?_
        refine AllReadyH.cons (o := _) rfl (fun K hK => ?_) AllReadyH.nil
        go_simp
        refine (HC9.out _ hH).mono ?_
        rintro e w2 ⟨rfl, b2⟩
        have KG := hide (show Blk w2 W.heap.size (cellsI noIno) 44 from Blk.below (Blk.new W.drew #[.int .i64 0, .int .i64 0, .int .i64 0, .int .i64 0, .int .i64 0, .int .i64 0, .int .i64 0, .int .i64 0, .int .i64 0, .int .i64 0, .int .i64 0, .int .i64 0, .int .i64 0, .int .i64 0, .int .i64 0, .int .i64 0, .int .i64 0, .int .i64 0, .int .i64 0, .int .i64 0, .int .i64 0, .int .i64 0, .int .i64 0, .int .i64 0] 44) b2 (by show W.heap.size < (W.drew.alloc _).heap.size; simp))
        have hH2 : Below W.heap.size W w2 := held_next hH b2
        refine hK.out _ _ hH2 (fun hH3 => ?_)
        clear hK K hH b2 hH3
        try simp only [Act.put, List.setIfInBounds_toArray, List.set_cons_zero, List.set_cons_succ]
        refine wpAnyH_take (i := 31) (oi := _) (v := .agg #[.int .i64 z0, .int .i64 (x1 : Int), .int .i64 (x2 : Int), .int .i64 (x3 : Int), .int .i64 (x4 : Int), .int .i64 (x5 : Int), .int .i64 (x6 : Int), .int .i64 (x7 : Int), .int .i64 (x8 : Int), .int .i64 (xs : Int), .int .i64 d0, .int .i64 d1, .int .i64 d2, .int .i64 d3, .int .i64 d4, .int .i64 d5, .int .i64 d6, .int .i64 d7, .int .i64 d8, .int .i64 d9, .int .i64 d10, .int .i64 d11, .int .i64 (xp : Int), .int .i64 (xq : Int)]) rfl (by kernel_rfl) (by kernel_rfl) (by kernel_rfl) (fun _ _ _ h => h) (Or.inl ⟨by rfl, fun w' hw' => by go_simp⟩) hH2 ?_
        try simp only [Act.put, List.setIfInBounds_toArray, List.set_cons_zero, List.set_cons_succ]
        refine wpAnyH_ready (rs := [33]) (by kernel_rfl) (by simp) ?_
        refine AllReadyH.cons (o := _) rfl (fun K hK => ?_) AllReadyH.nil
        rw [if_pos (by rfl)]
        refine wp_store_row 44 _ _ rfl W.heap.size (cellsI (inoI [z0, (x1 : Int), (x2 : Int), (x3 : Int), (x4 : Int), (x5 : Int), (x6 : Int), (x7 : Int), (x8 : Int)] (xs : Int) [d0, d1, d2, d3, d4, d5, d6, d7, d8, d9, d10, d11] (xp : Int) (xq : Int))) rfl rfl 44 _ KG.out info24 rfl (cellsI_one _) ?_
        have hH4 : Below W.heap.size W (w2.setRow W.heap.size (cellsI (inoI [z0, (x1 : Int), (x2 : Int), (x3 : Int), (x4 : Int), (x5 : Int), (x6 : Int), (x7 : Int), (x8 : Int)] (xs : Int) [d0, d1, d2, d3, d4, d5, d6, d7, d8, d9, d10, d11] (xp : Int) (xq : Int)))) := below_setRow hH2 (by first | exact Nat.le_refl _ | exact Nat.le_refl _) _
        have KQ4 := hide (show Blk (w2.setRow W.heap.size (cellsI (inoI [z0, (x1 : Int), (x2 : Int), (x3 : Int), (x4 : Int), (x5 : Int), (x6 : Int), (x7 : Int), (x8 : Int)] (xs : Int) [d0, d1, d2, d3, d4, d5, d6, d7, d8, d9, d10, d11] (xp : Int) (xq : Int)))) W.heap.size (cellsI (inoI [z0, (x1 : Int), (x2 : Int), (x3 : Int), (x4 : Int), (x5 : Int), (x6 : Int), (x7 : Int), (x8 : Int)] (xs : Int) [d0, d1, d2, d3, d4, d5, d6, d7, d8, d9, d10, d11] (xp : Int) (xq : Int))) 44 from (KG.out).row _)
        refine hK.out _ _ hH4 (fun hH5 => ?_)
        clear hK K hH5
        try simp only [Act.put, List.setIfInBounds_toArray, List.set_cons_zero, List.set_cons_succ]
        refine wpAnyH_done (by kernel_rfl) (NoPanic.normal ?_) _
        have HB4 := hide hH4
        generalize hW4 : w2.setRow W.heap.size (cellsI (inoI [z0, (x1 : Int), (x2 : Int), (x3 : Int), (x4 : Int), (x5 : Int), (x6 : Int), (x7 : Int), (x8 : Int)] (xs : Int) [d0, d1, d2, d3, d4, d5, d6, d7, d8, d9, d10, d11] (xp : Int) (xq : Int))) = w4 at HB4 KQ4 ⊢
        clear hW4 hH4 hH2
        generalize W.heap.size = gg at KQ4 ⊢
        have KN4 := hide (show Blk w4 w.heap.size (cellsI noIno) 44 from KB0.out.below HB4.out hlw)
        have B4 := hide (HB0.out.trans (HB4.out.mono HB0.out.size))
        go_wp2_with (first | (refine wpList_load_row rfl 44 _ rfl gg rfl 44 (cellsI (inoI [z0, (x1 : Int), (x2 : Int), (x3 : Int), (x4 : Int), (x5 : Int), (x6 : Int), (x7 : Int), (x8 : Int)] (xs : Int) [d0, d1, d2, d3, d4, d5, d6, d7, d8, d9, d10, d11] (xp : Int) (xq : Int))) (0, 0) _ KQ4.out Tryd.underlying44 rfl info24 ?_) | (go_at_call 56; fail))
        refine (specI_any z0 (x1 : Int) (x2 : Int) (x3 : Int) (x4 : Int) (x5 : Int) (x6 : Int) (x7 : Int) (x8 : Int) (xs : Int) [d0, d1, d2, d3, d4, d5, d6, d7, d8, d9, d10, d11] (xp : Int) (xq : Int) _ rfl).mono ?_
        rintro e w5 ⟨v5, rfl, o5, b5⟩
        have K5 := hide (And.intro (KQ4.out.below b5 KQ4.out.lt) (And.intro (KN4.out.below b5 KN4.out.lt) (And.intro (B4.out.trans (b5.mono B4.out.size)) (HB4.out.trans (b5.mono HB4.out.size)))))
        have O5 := hide o5
        clear b5 o5 KN4 B4 KQ4 HB4
        cases r with
        | false =>
          have hc : codeI z0 (x1 : Int) (x2 : Int) (x3 : Int) (x4 : Int) (x5 : Int) (x6 : Int) (x7 : Int) (x8 : Int) (xs : Int) [d0, d1, d2, d3, d4, d5, d6, d7, d8, d9, d10, d11] (xp : Int) (xq : Int) = 7 := by unfold codeI; rw [HRB.out.1]; rfl
          rw [hc]
          go_wp2_with (refine wpList_store_row rfl 44 _ _ rfl w.heap.size #[.int .i64 0, .int .i64 0, .int .i64 0, .int .i64 0, .int .i64 0, .int .i64 0, .int .i64 0, .int .i64 0, .int .i64 0, .int .i64 0, .int .i64 0, .int .i64 0, .int .i64 0, .int .i64 0, .int .i64 0, .int .i64 0, .int .i64 0, .int .i64 0, .int .i64 0, .int .i64 0, .int .i64 0, .int .i64 0, .int .i64 0, .int .i64 0] rfl rfl 44 _ K5.out.2.1 info24 rfl (cellsI_one noIno) ?_)
          refine bodyPost_ret (v := .tuple #[.agg (cellsI noIno), .int .i64 21]) ?_ rfl ⟨rfl, below_setRow K5.out.2.2.1 (Nat.le_refl _) _⟩
          exact results_row_tmp rfl _ _ w.heap.size 44 (cellsI noIno) (0, 0) _ _ rfl rfl (K5.out.2.1.row _) Tryd.underlying44 rfl info24
        | true =>
          have hc : codeI z0 (x1 : Int) (x2 : Int) (x3 : Int) (x4 : Int) (x5 : Int) (x6 : Int) (x7 : Int) (x8 : Int) (xs : Int) [d0, d1, d2, d3, d4, d5, d6, d7, d8, d9, d10, d11] (xp : Int) (xq : Int) = 0 := by unfold codeI; rw [HRB.out.1]; rfl
          have hl : (encI z0 (x1 : Int) (x2 : Int) (x3 : Int) (x4 : Int) (x5 : Int) (x6 : Int) (x7 : Int) (x8 : Int) (xs : Int) [d0, d1, d2, d3, d4, d5, d6, d7, d8, d9, d10, d11] (xp : Int) (xq : Int)).length = 128 := by unfold encI; rw [if_pos HRB.out.1]; exact bytesIno_len _ _ _ _ _ _ _ _ _ _ _ _ _ rfl
          rw [hc]
          have o5 := O5.out
          obtain ⟨g5, of5, cp5, rfl, hg5, _, _, hcell5⟩ := (Rd.own o5).partsC (by rw [hl]; omega)
          have v1 := run_convert_bytes_arg (P := Tryd.prog) w5 24 5 Tryd.underlying24 Tryd.underlying5 bd off 128 cap zs HZ0.out (HCell.out w5 K5.out.2.2.2) 9 Tryd.underlying9
          have v2 := run_convert_bytes_arg (P := Tryd.prog) w5 24 5 Tryd.underlying24 Tryd.underlying5 g5 of5 (encI z0 (x1 : Int) (x2 : Int) (x3 : Int) (x4 : Int) (x5 : Int) (x6 : Int) (x7 : Int) (x8 : Int) (xs : Int) [d0, d1, d2, d3, d4, d5, d6, d7, d8, d9, d10, d11] (xp : Int) (xq : Int)).length cp5 (encI z0 (x1 : Int) (x2 : Int) (x3 : Int) (x4 : Int) (x5 : Int) (x6 : Int) (x7 : Int) (x8 : Int) (xs : Int) [d0, d1, d2, d3, d4, d5, d6, d7, d8, d9, d10, d11] (xp : Int) (xq : Int)) rfl hcell5 9 Tryd.underlying9
          cases b with
          | true =>
            have he : (encI z0 (x1 : Int) (x2 : Int) (x3 : Int) (x4 : Int) (x5 : Int) (x6 : Int) (x7 : Int) (x8 : Int) (xs : Int) [d0, d1, d2, d3, d4, d5, d6, d7, d8, d9, d10, d11] (xp : Int) (xq : Int)) = zs := by simpa using HRB.out.2.1
            rw [he] at v2 ⊢
            rw [HZ0.out] at v2 ⊢
            generalize strOfNums zs = S at v1 v2
            clear hcell5 o5 he hc hl
            go_wp2_with (first | (refine wpList_load_row rfl 44 _ rfl gg rfl 44 (cellsI (inoI [z0, (x1 : Int), (x2 : Int), (x3 : Int), (x4 : Int), (x5 : Int), (x6 : Int), (x7 : Int), (x8 : Int)] (xs : Int) [d0, d1, d2, d3, d4, d5, d6, d7, d8, d9, d10, d11] (xp : Int) (xq : Int))) (0, 0) _ K5.out.1 Tryd.underlying44 rfl info24 ?_) | (refine wpList_store_row rfl 44 _ _ rfl w.heap.size (cellsI (inoI [z0, (x1 : Int), (x2 : Int), (x3 : Int), (x4 : Int), (x5 : Int), (x6 : Int), (x7 : Int), (x8 : Int)] (xs : Int) [d0, d1, d2, d3, d4, d5, d6, d7, d8, d9, d10, d11] (xp : Int) (xq : Int))) rfl rfl 44 _ K5.out.2.1 info24 rfl (cellsI_one _) ?_))
            refine bodyPost_ret (v := .tuple #[.agg (cellsI (inoI [z0, (x1 : Int), (x2 : Int), (x3 : Int), (x4 : Int), (x5 : Int), (x6 : Int), (x7 : Int), (x8 : Int)] (xs : Int) [d0, d1, d2, d3, d4, d5, d6, d7, d8, d9, d10, d11] (xp : Int) (xq : Int))), .int .i64 0]) ?_ rfl ⟨rfl, below_setRow K5.out.2.2.1 (Nat.le_refl _) _⟩
            exact results_row_tmp rfl _ _ w.heap.size 44 (cellsI (inoI [z0, (x1 : Int), (x2 : Int), (x3 : Int), (x4 : Int), (x5 : Int), (x6 : Int), (x7 : Int), (x8 : Int)] (xs : Int) [d0, d1, d2, d3, d4, d5, d6, d7, d8, d9, d10, d11] (xp : Int) (xq : Int))) (0, 0) _ _ rfl rfl (K5.out.2.1.row _) Tryd.underlying44 rfl info24
          | false =>
            have hne : ¬ (strOfNums (encI z0 (x1 : Int) (x2 : Int) (x3 : Int) (x4 : Int) (x5 : Int) (x6 : Int) (x7 : Int) (x8 : Int) (xs : Int) [d0, d1, d2, d3, d4, d5, d6, d7, d8, d9, d10, d11] (xp : Int) (xq : Int))).toList = (strOfNums zs).toList := fun h => by
              have h1 := strOf_inj HRB.out.2.2.1 HRB.out.2.2.2 h
              have h2 := HRB.out.2.1
              rw [decide_eq_true h1] at h2
              cases h2
            rw [hl] at v2 ⊢
            generalize strOfNums zs = S1 at v1 hne
            generalize strOfNums (encI z0 (x1 : Int) (x2 : Int) (x3 : Int) (x4 : Int) (x5 : Int) (x6 : Int) (x7 : Int) (x8 : Int) (xs : Int) [d0, d1, d2, d3, d4, d5, d6, d7, d8, d9, d10, d11] (xp : Int) (xq : Int)) = S2 at v2 hne
            have hne1 : (S2.toList == S1.toList) = false := by simpa using hne
            clear hne
            clear hcell5 o5 hc hl
            go_wp2_with (refine wpList_store_row rfl 44 _ _ rfl w.heap.size #[.int .i64 0, .int .i64 0, .int .i64 0, .int .i64 0, .int .i64 0, .int .i64 0, .int .i64 0, .int .i64 0, .int .i64 0, .int .i64 0, .int .i64 0, .int .i64 0, .int .i64 0, .int .i64 0, .int .i64 0, .int .i64 0, .int .i64 0, .int .i64 0, .int .i64 0, .int .i64 0, .int .i64 0, .int .i64 0, .int .i64 0, .int .i64 0] rfl rfl 44 _ K5.out.2.1 info24 rfl (cellsI_one noIno) ?_)
            refine bodyPost_ret (v := .tuple #[.agg (cellsI noIno), .int .i64 21]) ?_ rfl ⟨rfl, below_setRow K5.out.2.2.1 (Nat.le_refl _) _⟩
            exact results_row_tmp rfl _ _ w.heap.size 44 (cellsI noIno) (0, 0) _ _ rfl rfl (K5.out.2.1.row _) Tryd.underlying44 rfl info24
    · go_simp
      have hH6 := held_alloc hH (.cells #[.int .i64 0, .int .i64 0, .int .i64 0, .int .i64 0, .int .i64 0, .int .i64 0, .int .i64 0, .int .i64 0, .int .i64 0, .int .i64 0, .int .i64 0, .int .i64 0, .int .i64 0, .int .i64 0, .int .i64 0, .int .i64 0, .int .i64 0, .int .i64 0, .int .i64 0, .int .i64 0, .int .i64 0, .int .i64 0, .int .i64 0, .int .i64 0] 44)
      refine hK.out _ _ hH6 (fun hH7 => ?_)
      clear hK K hH hH7
      have hH := hH6
      clear hH6
      try simp only [Act.put, List.setIfInBounds_toArray, List.set_cons_zero, List.set_cons_succ]
      refine wpAnyH_ready (rs := [9]) (by kernel_rfl) (by simp) ?_
      refine AllReadyH.cons (o := _) rfl (fun K hK => ?_) AllReadyH.nil
      go_simp
      refine (HC2.out _ hH).mono ?_
      rintro e w1 ⟨rfl, rfl⟩
      refine hK.out _ _ hH (fun hH2 => ?_)
      clear hK K hH2
      try simp only [Act.put, List.setIfInBounds_toArray, List.set_cons_zero, List.set_cons_succ]
      refine wpAnyH_ready (rs := [12]) (by kernel_rfl) (by simp) ?_
      refine AllReadyH.cons (o := _) rfl (fun K hK => ?_) AllReadyH.nil
      go_simp
      refine (HC3.out _ hH).mono ?_
      rintro e w1 ⟨rfl, rfl⟩
      refine hK.out _ _ hH (fun hH2 => ?_)
      clear hK K hH2
      try simp only [Act.put, List.setIfInBounds_toArray, List.set_cons_zero, List.set_cons_succ]
      refine wpAnyH_ready (rs := [15]) (by kernel_rfl) (by simp) ?_
      refine AllReadyH.cons (o := _) rfl (fun K hK => ?_) AllReadyH.nil
      go_simp
      refine (HC4.out _ hH).mono ?_
      rintro e w1 ⟨rfl, rfl⟩
      refine hK.out _ _ hH (fun hH2 => ?_)
      clear hK K hH2
      try simp only [Act.put, List.setIfInBounds_toArray, List.set_cons_zero, List.set_cons_succ]
      refine wpAnyH_ready (rs := [18]) (by kernel_rfl) (by simp) ?_
      refine AllReadyH.cons (o := _) rfl (fun K hK => ?_) AllReadyH.nil
      go_simp
      refine (HC5.out _ hH).mono ?_
      rintro e w1 ⟨rfl, rfl⟩
      refine hK.out _ _ hH (fun hH2 => ?_)
      clear hK K hH2
      try simp only [Act.put, List.setIfInBounds_toArray, List.set_cons_zero, List.set_cons_succ]
      refine wpAnyH_ready (rs := [21]) (by kernel_rfl) (by simp) ?_
      refine AllReadyH.cons (o := _) rfl (fun K hK => ?_) AllReadyH.nil
      go_simp
      refine (HC6.out _ hH).mono ?_
      rintro e w1 ⟨rfl, rfl⟩
      refine hK.out _ _ hH (fun hH2 => ?_)
      clear hK K hH2
      try simp only [Act.put, List.setIfInBounds_toArray, List.set_cons_zero, List.set_cons_succ]
      refine wpAnyH_ready (rs := [24]) (by kernel_rfl) (by simp) ?_
      refine AllReadyH.cons (o := _) rfl (fun K hK => ?_) AllReadyH.nil
      go_simp
      refine (HC7.out _ hH).mono ?_
      rintro e w1 ⟨rfl, rfl⟩
      refine hK.out _ _ hH (fun hH2 => ?_)
      clear hK K hH2
      try simp only [Act.put, List.setIfInBounds_toArray, List.set_cons_zero, List.set_cons_succ]
      refine wpAnyH_ready (rs := [27]) (by kernel_rfl) (by simp) ?_
      refine AllReadyH.cons (o := _) rfl (fun K hK => ?_) AllReadyH.nil
      go_simp
      refine (HC8.out _ hH).mono ?_
      rintro e w1 ⟨rfl, rfl⟩
      refine hK.out _ _ hH (fun hH2 => ?_)
      clear hK K hH2
      try simp only [Act.put, List.setIfInBounds_toArray, List.set_cons_zero, List.set_cons_succ]
      refine wpAnyH_ready (rs := [30]) (by kernel_rfl) (by simp) ?_
      refine AllReadyH.cons (o := _) rfl (fun K hK => ?_) AllReadyH.nil
      go_simp
      refine (HC9.out _ hH).mono ?_
      rintro e w2 ⟨rfl, b2⟩
      have KG := hide (show Blk w2 W.heap.size (cellsI noIno) 44 from Blk.below (Blk.new W.drew #[.int .i64 0, .int .i64 0, .int .i64 0, .int .i64 0, .int .i64 0, .int .i64 0, .int .i64 0, .int .i64 0, .int .i64 0, .int .i64 0, .int .i64 0, .int .i64 0, .int .i64 0, .int .i64 0, .int .i64 0, .int .i64 0, .int .i64 0, .int .i64 0, .int .i64 0, .int .i64 0, .int .i64 0, .int .i64 0, .int .i64 0, .int .i64 0] 44) b2 (by show W.heap.size < (W.drew.alloc _).heap.size; simp))
      have hH2 : Below W.heap.size W w2 := held_next hH b2
      refine hK.out _ _ hH2 (fun hH3 => ?_)
      clear hK K hH b2 hH3
      try simp only [Act.put, List.setIfInBounds_toArray, List.set_cons_zero, List.set_cons_succ]
      refine wpAnyH_take (i := 31) (oi := _) (v := .agg #[.int .i64 z0, .int .i64 (x1 : Int), .int .i64 (x2 : Int), .int .i64 (x3 : Int), .int .i64 (x4 : Int), .int .i64 (x5 : Int), .int .i64 (x6 : Int), .int .i64 (x7 : Int), .int .i64 (x8 : Int), .int .i64 (xs : Int), .int .i64 d0, .int .i64 d1, .int .i64 d2, .int .i64 d3, .int .i64 d4, .int .i64 d5, .int .i64 d6, .int .i64 d7, .int .i64 d8, .int .i64 d9, .int .i64 d10, .int .i64 d11, .int .i64 (xp : Int), .int .i64 (xq : Int)]) rfl (by kernel_rfl) (by kernel_rfl) (by kernel_rfl) (fun _ _ _ h => h) (Or.inl ⟨by rfl, fun w' hw' => by go_simp⟩) hH2 ?_
      try simp only [Act.put, List.setIfInBounds_toArray, List.set_cons_zero, List.set_cons_succ]
      refine wpAnyH_ready (rs := [33]) (by kernel_rfl) (by simp) ?_
      refine AllReadyH.cons (o := _) rfl (fun K hK => ?_) AllReadyH.nil
      rw [if_pos (by rfl)]
      refine wp_store_row 44 _ _ rfl W.heap.size (cellsI (inoI [z0, (x1 : Int), (x2 : Int), (x3 : Int), (x4 : Int), (x5 : Int), (x6 : Int), (x7 : Int), (x8 : Int)] (xs : Int) [d0, d1, d2, d3, d4, d5, d6, d7, d8, d9, d10, d11] (xp : Int) (xq : Int))) rfl rfl 44 _ KG.out info24 rfl (cellsI_one _) ?_
      have hH4 : Below W.heap.size W (w2.setRow W.heap.size (cellsI (inoI [z0, (x1 : Int), (x2 : Int), (x3 : Int), (x4 : Int), (x5 : Int), (x6 : Int), (x7 : Int), (x8 : Int)] (xs : Int) [d0, d1, d2, d3, d4, d5, d6, d7, d8, d9, d10, d11] (xp : Int) (xq : Int)))) := below_setRow hH2 (by first | exact Nat.le_refl _ | exact Nat.le_refl _) _
      have KQ4 := hide (show Blk (w2.setRow W.heap.size (cellsI (inoI [z0, (x1 : Int), (x2 : Int), (x3 : Int), (x4 : Int), (x5 : Int), (x6 : Int), (x7 : Int), (x8 : Int)] (xs : Int) [d0, d1, d2, d3, d4, d5, d6, d7, d8, d9, d10, d11] (xp : Int) (xq : Int)))) W.heap.size (cellsI (inoI [z0, (x1 : Int), (x2 : Int), (x3 : Int), (x4 : Int), (x5 : Int), (x6 : Int), (x7 : Int), (x8 : Int)] (xs : Int) [d0, d1, d2, d3, d4, d5, d6, d7, d8, d9, d10, d11] (xp : Int) (xq : Int))) 44 from (KG.out).row _)
      refine hK.out _ _ hH4 (fun hH5 => ?_)
      clear hK K hH5
      try simp only [Act.put, List.setIfInBounds_toArray, List.set_cons_zero, List.set_cons_succ]
      refine wpAnyH_done (by kernel_rfl) (NoPanic.normal ?_) _
      have HB4 := hide hH4
      generalize hW4 : w2.setRow W.heap.size (cellsI (inoI [z0, (x1 : Int), (x2 : Int), (x3 : Int), (x4 : Int), (x5 : Int), (x6 : Int), (x7 : Int), (x8 : Int)] (xs : Int) [d0, d1, d2, d3, d4, d5, d6, d7, d8, d9, d10, d11] (xp : Int) (xq : Int))) = w4 at HB4 KQ4 ⊢
      clear hW4 hH4 hH2
      generalize W.heap.size = gg at KQ4 ⊢
      have KN4 := hide (show Blk w4 w.heap.size (cellsI noIno) 44 from KB0.out.below HB4.out hlw)
      have B4 := hide (HB0.out.trans (HB4.out.mono HB0.out.size))
      go_wp2_with (first | (refine wpList_load_row rfl 44 _ rfl gg rfl 44 (cellsI (inoI [z0, (x1 : Int), (x2 : Int), (x3 : Int), (x4 : Int), (x5 : Int), (x6 : Int), (x7 : Int), (x8 : Int)] (xs : Int) [d0, d1, d2, d3, d4, d5, d6, d7, d8, d9, d10, d11] (xp : Int) (xq : Int))) (0, 0) _ KQ4.out Tryd.underlying44 rfl info24 ?_) | (go_at_call 56; fail))
      refine (specI_any z0 (x1 : Int) (x2 : Int) (x3 : Int) (x4 : Int) (x5 : Int) (x6 : Int) (x7 : Int) (x8 : Int) (xs : Int) [d0, d1, d2, d3, d4, d5, d6, d7, d8, d9, d10, d11] (xp : Int) (xq : Int) _ rfl).mono ?_
      rintro e w5 ⟨v5, rfl, o5, b5⟩
      have K5 := hide (And.intro (KQ4.out.below b5 KQ4.out.lt) (And.intro (KN4.out.below b5 KN4.out.lt) (And.intro (B4.out.trans (b5.mono B4.out.size)) (HB4.out.trans (b5.mono HB4.out.size)))))
      have O5 := hide o5
      clear b5 o5 KN4 B4 KQ4 HB4
      cases r with
      | false =>
        have hc : codeI z0 (x1 : Int) (x2 : Int) (x3 : Int) (x4 : Int) (x5 : Int) (x6 : Int) (x7 : Int) (x8 : Int) (xs : Int) [d0, d1, d2, d3, d4, d5, d6, d7, d8, d9, d10, d11] (xp : Int) (xq : Int) = 7 := by unfold codeI; rw [HRB.out.1]; rfl
        rw [hc]
        go_wp2_with (refine wpList_store_row rfl 44 _ _ rfl w.heap.size #[.int .i64 0, .int .i64 0, .int .i64 0, .int .i64 0, .int .i64 0, .int .i64 0, .int .i64 0, .int .i64 0, .int .i64 0, .int .i64 0, .int .i64 0, .int .i64 0, .int .i64 0, .int .i64 0, .int .i64 0, .int .i64 0, .int .i64 0, .int .i64 0, .int .i64 0, .int .i64 0, .int .i64 0, .int .i64 0, .int .i64 0, .int .i64 0] rfl rfl 44 _ K5.out.2.1 info24 rfl (cellsI_one noIno) ?_)
        refine bodyPost_ret (v := .tuple #[.agg (cellsI noIno), .int .i64 21]) ?_ rfl ⟨rfl, below_setRow K5.out.2.2.1 (Nat.le_refl _) _⟩
        exact results_row_tmp rfl _ _ w.heap.size 44 (cellsI noIno) (0, 0) _ _ rfl rfl (K5.out.2.1.row _) Tryd.underlying44 rfl info24
      | true =>
        have hc : codeI z0 (x1 : Int) (x2 : Int) (x3 : Int) (x4 : Int) (x5 : Int) (x6 : Int) (x7 : Int) (x8 : Int) (xs : Int) [d0, d1, d2, d3, d4, d5, d6, d7, d8, d9, d10, d11] (xp : Int) (xq : Int) = 0 := by unfold codeI; rw [HRB.out.1]; rfl
        have hl : (encI z0 (x1 : Int) (x2 : Int) (x3 : Int) (x4 : Int) (x5 : Int) (x6 : Int) (x7 : Int) (x8 : Int) (xs : Int) [d0, d1, d2, d3, d4, d5, d6, d7, d8, d9, d10, d11] (xp : Int) (xq : Int)).length = 128 := by unfold encI; rw [if_pos HRB.out.1]; exact bytesIno_len _ _ _ _ _ _ _ _ _ _ _ _ _ rfl
        rw [hc]
        have o5 := O5.out
        obtain ⟨g5, of5, cp5, rfl, hg5, _, _, hcell5⟩ := (Rd.own o5).partsC (by rw [hl]; omega)
        have v1 := run_convert_bytes_arg (P := Tryd.prog) w5 24 5 Tryd.underlying24 Tryd.underlying5 bd off 128 cap zs HZ0.out (HCell.out w5 K5.out.2.2.2) 9 Tryd.underlying9
        have v2 := run_convert_bytes_arg (P := Tryd.prog) w5 24 5 Tryd.underlying24 Tryd.underlying5 g5 of5 (encI z0 (x1 : Int) (x2 : Int) (x3 : Int) (x4 : Int) (x5 : Int) (x6 : Int) (x7 : Int) (x8 : Int) (xs : Int) [d0, d1, d2, d3, d4, d5, d6, d7, d8, d9, d10, d11] (xp : Int) (xq : Int)).length cp5 (encI z0 (x1 : Int) (x2 : Int) (x3 : Int) (x4 : Int) (x5 : Int) (x6 : Int) (x7 : Int) (x8 : Int) (xs : Int) [d0, d1, d2, d3, d4, d5, d6, d7, d8, d9, d10, d11] (xp : Int) (xq : Int)) rfl hcell5 9 Tryd.underlying9
        cases b with
        | true =>
          have he : (encI z0 (x1 : Int) (x2 : Int) (x3 : Int) (x4 : Int) (x5 : Int) (x6 : Int) (x7 : Int) (x8 : Int) (xs : Int) [d0, d1, d2, d3, d4, d5, d6, d7, d8, d9, d10, d11] (xp : Int) (xq : Int)) = zs := by simpa using HRB.out.2.1
          rw [he] at v2 ⊢
          rw [HZ0.out] at v2 ⊢
          generalize strOfNums zs = S at v1 v2
          clear hcell5 o5 he hc hl
          go_wp2_with (first | (refine wpList_load_row rfl 44 _ rfl gg rfl 44 (cellsI (inoI [z0, (x1 : Int), (x2 : Int), (x3 : Int), (x4 : Int), (x5 : Int), (x6 : Int), (x7 : Int), (x8 : Int)] (xs : Int) [d0, d1, d2, d3, d4, d5, d6, d7, d8, d9, d10, d11] (xp : Int) (xq : Int))) (0, 0) _ K5.out.1 Tryd.underlying44 rfl info24 ?_) | (refine wpList_store_row rfl 44 _ _ rfl w.heap.size (cellsI (inoI [z0, (x1 : Int), (x2 : Int), (x3 : Int), (x4 : Int), (x5 : Int), (x6 : Int), (x7 : Int), (x8 : Int)] (xs : Int) [d0, d1, d2, d3, d4, d5, d6, d7, d8, d9, d10, d11] (xp : Int) (xq : Int))) rfl rfl 44 _ K5.out.2.1 info24 rfl (cellsI_one _) ?_))
          refine bodyPost_ret (v := .tuple #[.agg (cellsI (inoI [z0, (x1 : Int), (x2 : Int), (x3 : Int), (x4 : Int), (x5 : Int), (x6 : Int), (x7 : Int), (x8 : Int)] (xs : Int) [d0, d1, d2, d3, d4, d5, d6, d7, d8, d9, d10, d11] (xp : Int) (xq : Int))), .int .i64 0]) ?_ rfl ⟨rfl, below_setRow K5.out.2.2.1 (Nat.le_refl _) _⟩
          exact results_row_tmp rfl _ _ w.heap.size 44 (cellsI (inoI [z0, (x1 : Int), (x2 : Int), (x3 : Int), (x4 : Int), (x5 : Int), (x6 : Int), (x7 : Int), (x8 : Int)] (xs : Int) [d0, d1, d2, d3, d4, d5, d6, d7, d8, d9, d10, d11] (xp : Int) (xq : Int))) (0, 0) _ _ rfl rfl (K5.out.2.1.row _) Tryd.underlying44 rfl info24
        | false =>
          have hne : ¬ (strOfNums (encI z0 (x1 : Int) (x2 : Int) (x3 : Int) (x4 : Int) (x5 : Int) (x6 : Int) (x7 : Int) (x8 : Int) (xs : Int) [d0, d1, d2, d3, d4, d5, d6, d7, d8, d9, d10, d11] (xp : Int) (xq : Int))).toList = (strOfNums zs).toList := fun h => by
            have h1 := strOf_inj HRB.out.2.2.1 HRB.out.2.2.2 h
            have h2 := HRB.out.2.1
            rw [decide_eq_true h1] at h2
            cases h2
          rw [hl] at v2 ⊢
          generalize strOfNums zs = S1 at v1 hne
          generalize strOfNums (encI z0 (x1 : Int) (x2 : Int) (x3 : Int) (x4 : Int) (x5 : Int) (x6 : Int) (x7 : Int) (x8 : Int) (xs : Int) [d0, d1, d2, d3, d4, d5, d6, d7, d8, d9, d10, d11] (xp : Int) (xq : Int)) = S2 at v2 hne
          have hne1 : (S2.toList == S1.toList) = false := by simpa using hne
          clear hne
          clear hcell5 o5 hc hl
          go_wp2_with (refine wpList_store_row rfl 44 _ _ rfl w.heap.size #[.int .i64 0, .int .i64 0, .int .i64 0, .int .i64 0, .int .i64 0, .int .i64 0, .int .i64 0, .int .i64 0, .int .i64 0, .int .i64 0, .int .i64 0, .int .i64 0, .int .i64 0, .int .i64 0, .int .i64 0, .int .i64 0, .int .i64 0, .int .i64 0, .int .i64 0, .int .i64 0, .int .i64 0, .int .i64 0, .int .i64 0, .int .i64 0] rfl rfl 44 _ K5.out.2.1 info24 rfl (cellsI_one noIno) ?_)
          refine bodyPost_ret (v := .tuple #[.agg (cellsI noIno), .int .i64 21]) ?_ rfl ⟨rfl, below_setRow K5.out.2.2.1 (Nat.le_refl _) _⟩
          exact results_row_tmp rfl _ _ w.heap.size 44 (cellsI noIno) (0, 0) _ _ rfl rfl (K5.out.2.1.row _) Tryd.underlying44 rfl info24
  · go_simp
    have hH6 := held_alloc hH (.cells #[.int .i64 0, .int .i64 0, .int .i64 0, .int .i64 0, .int .i64 0, .int .i64 0, .int .i64 0, .int .i64 0, .int .i64 0, .int .i64 0, .int .i64 0, .int .i64 0, .int .i64 0, .int .i64 0, .int .i64 0, .int .i64 0, .int .i64 0, .int .i64 0, .int .i64 0, .int .i64 0, .int .i64 0, .int .i64 0, .int .i64 0, .int .i64 0] 44)
    refine hK.out _ _ hH6 (fun hH7 => ?_)
    clear hK K hH hH7
    have hH := hH6
    clear hH6
    try simp only [Act.put, List.setIfInBounds_toArray, List.set_cons_zero, List.set_cons_succ]
    refine wpAnyH_ready (rs := [6]) (by kernel_rfl) (by simp) ?_
    refine AllReadyH.cons (o := _) rfl (fun K hK => ?_) AllReadyH.nil
    go_simp
    refine (HC1.out _ hH).mono ?_
    rintro e w1 ⟨rfl, rfl⟩
    refine hK.out _ _ hH (fun hH2 => ?_)
    clear hK K hH2
    try simp only [Act.put, List.setIfInBounds_toArray, List.set_cons_zero, List.set_cons_succ]
    refine wpAnyH_ready (rs := [9]) (by kernel_rfl) (by simp) ?_
    refine AllReadyH.cons (o := _) rfl (fun K hK => ?_) AllReadyH.nil
    go_simp
    refine (HC2.out _ hH).mono ?_
    rintro e w1 ⟨rfl, rfl⟩
    refine hK.out _ _ hH (fun hH2 => ?_)
    clear hK K hH2
    try simp only [Act.put, List.setIfInBounds_toArray, List.set_cons_zero, List.set_cons_succ]
    refine wpAnyH_ready (rs := [12]) (by kernel_rfl) (by simp) ?_
    refine AllReadyH.cons (o := _) rfl (fun K hK => ?_) AllReadyH.nil
    go_simp
    refine (HC3.out _ hH).mono ?_
    rintro e w1 ⟨rfl, rfl⟩
    refine hK.out _ _ hH (fun hH2 => ?_)
    clear hK K hH2
    try simp only [Act.put, List.setIfInBounds_toArray, List.set_cons_zero, List.set_cons_succ]
    refine wpAnyH_ready (rs := [15]) (by kernel_rfl) (by simp) ?_
    refine AllReadyH.cons (o := _) rfl (fun K hK => ?_) AllReadyH.nil
    go_simp
    refine (HC4.out _ hH).mono ?_
    rintro e w1 ⟨rfl, rfl⟩
    refine hK.out _ _ hH (fun hH2 => ?_)
    clear hK K hH2
    try simp only [Act.put, List.setIfInBounds_toArray, List.set_cons_zero, List.set_cons_succ]
    refine wpAnyH_ready (rs := [18]) (by kernel_rfl) (by simp) ?_
    refine AllReadyH.cons (o := _) rfl (fun K hK => ?_) AllReadyH.nil
    go_simp
    refine (HC5.out _ hH).mono ?_
    rintro e w1 ⟨rfl, rfl⟩
    refine hK.out _ _ hH (fun hH2 => ?_)
    clear hK K hH2
    try simp only [Act.put, List.setIfInBounds_toArray, List.set_cons_zero, List.set_cons_succ]
    refine wpAnyH_ready (rs := [21]) (by kernel_rfl) (by simp) ?_
    refine AllReadyH.cons (o := _) rfl (fun K hK => ?_) AllReadyH.nil
    go_simp
    refine (HC6.out _ hH).mono ?_
    rintro e w1 ⟨rfl, rfl⟩
    refine hK.out _ _ hH (fun hH2 => ?_)
    clear hK K hH2
    try simp only [Act.put, List.setIfInBounds_toArray, List.set_cons_zero, List.set_cons_succ]
    refine wpAnyH_ready (rs := [24]) (by kernel_rfl) (by simp) ?_
    refine AllReadyH.cons (o := _) rfl (fun K hK => ?_) AllReadyH.nil
    go_simp
    refine (HC7.out _ hH).mono ?_
    rintro e w1 ⟨rfl, rfl⟩
    refine hK.out _ _ hH (fun hH2 => ?_)
    clear hK K hH2
    try simp only [Act.put, List.setIfInBounds_toArray, List.set_cons_zero, List.set_cons_succ]
    refine wpAnyH_ready (rs := [27]) (by kernel_rfl) (by simp) ?_
    refine AllReadyH.cons (o := _) rfl (fun K hK => ?_) AllReadyH.nil
    go_simp
    refine (HC8.out _ hH).mono ?_
    rintro e w1 ⟨rfl, rfl⟩
    refine hK.out _ _ hH (fun hH2 => ?_)
    clear hK K hH2
    try simp only [Act.put, List.setIfInBounds_toArray, List.set_cons_zero, List.set_cons_succ]
    refine wpAnyH_ready (rs := [30]) (by kernel_rfl) (by simp) ?_
    refine AllReadyH.cons (o := _) rfl (fun K hK => ?_) AllReadyH.nil
    go_simp
    refine (HC9.out _ hH).mono ?_
    rintro e w2 ⟨rfl, b2⟩
    have KG := hide (show Blk w2 W.heap.size (cellsI noIno) 44 from Blk.below (Blk.new W.drew #[.int .i64 0, .int .i64 0, .int .i64 0, .int .i64 0, .int .i64 0, .int .i64 0, .int .i64 0, .int .i64 0, .int .i64 0, .int .i64 0, .int .i64 0, .int .i64 0, .int .i64 0, .int .i64 0, .int .i64 0, .int .i64 0, .int .i64 0, .int .i64 0, .int .i64 0, .int .i64 0, .int .i64 0, .int .i64 0, .int .i64 0, .int .i64 0] 44) b2 (by show W.heap.size < (W.drew.alloc _).heap.size; simp))
    have hH2 : Below W.heap.size W w2 := held_next hH b2
    refine hK.out _ _ hH2 (fun hH3 => ?_)
    clear hK K hH b2 hH3
    try simp only [Act.put, List.setIfInBounds_toArray, List.set_cons_zero, List.set_cons_succ]
    refine wpAnyH_take (i := 31) (oi := _) (v := .agg #[.int .i64 z0, .int .i64 (x1 : Int), .int .i64 (x2 : Int), .int .i64 (x3 : Int), .int .i64 (x4 : Int), .int .i64 (x5 : Int), .int .i64 (x6 : Int), .int .i64 (x7 : Int), .int .i64 (x8 : Int), .int .i64 (xs : Int), .int .i64 d0, .int .i64 d1, .int .i64 d2, .int .i64 d3, .int .i64 d4, .int .i64 d5, .int .i64 d6, .int .i64 d7, .int .i64 d8, .int .i64 d9, .int .i64 d10, .int .i64 d11, .int .i64 (xp : Int), .int .i64 (xq : Int)]) rfl (by kernel_rfl) (by kernel_rfl) (by kernel_rfl) (fun _ _ _ h => h) (Or.inl ⟨by rfl, fun w' hw' => by go_simp⟩) hH2 ?_
    try simp only [Act.put, List.setIfInBounds_toArray, List.set_cons_zero, List.set_cons_succ]
    refine wpAnyH_ready (rs := [33]) (by kernel_rfl) (by simp) ?_
    refine AllReadyH.cons (o := _) rfl (fun K hK => ?_) AllReadyH.nil
    rw [if_pos (by rfl)]
    refine wp_store_row 44 _ _ rfl W.heap.size (cellsI (inoI [z0, (x1 : Int), (x2 : Int), (x3 : Int), (x4 : Int), (x5 : Int), (x6 : Int), (x7 : Int), (x8 : Int)] (xs : Int) [d0, d1, d2, d3, d4, d5, d6, d7, d8, d9, d10, d11] (xp : Int) (xq : Int))) rfl rfl 44 _ KG.out info24 rfl (cellsI_one _) ?_
    have hH4 : Below W.heap.size W (w2.setRow W.heap.size (cellsI (inoI [z0, (x1 : Int), (x2 : Int), (x3 : Int), (x4 : Int), (x5 : Int), (x6 : Int), (x7 : Int), (x8 : Int)] (xs : Int) [d0, d1, d2, d3, d4, d5, d6, d7, d8, d9, d10, d11] (xp : Int) (xq : Int)))) := below_setRow hH2 (by first | exact Nat.le_refl _ | exact Nat.le_refl _) _
    have KQ4 := hide (show Blk (w2.setRow W.heap.size (cellsI (inoI [z0, (x1 : Int), (x2 : Int), (x3 : Int), (x4 : Int), (x5 : Int), (x6 : Int), (x7 : Int), (x8 : Int)] (xs : Int) [d0, d1, d2, d3, d4, d5, d6, d7, d8, d9, d10, d11] (xp : Int) (xq : Int)))) W.heap.size (cellsI (inoI [z0, (x1 : Int), (x2 : Int), (x3 : Int), (x4 : Int), (x5 : Int), (x6 : Int), (x7 : Int), (x8 : Int)] (xs : Int) [d0, d1, d2, d3, d4, d5, d6, d7, d8, d9, d10, d11] (xp : Int) (xq : Int))) 44 from (KG.out).row _)
    refine hK.out _ _ hH4 (fun hH5 => ?_)
    clear hK K hH5
    try simp only [Act.put, List.setIfInBounds_toArray, List.set_cons_zero, List.set_cons_succ]
    refine wpAnyH_done (by kernel_rfl) (NoPanic.normal ?_) _
    have HB4 := hide hH4
    generalize hW4 : w2.setRow W.heap.size (cellsI (inoI [z0, (x1 : Int), (x2 : Int), (x3 : Int), (x4 : Int), (x5 : Int), (x6 : Int), (x7 : Int), (x8 : Int)] (xs : Int) [d0, d1, d2, d3, d4, d5, d6, d7, d8, d9, d10, d11] (xp : Int) (xq : Int))) = w4 at HB4 KQ4 ⊢
    clear hW4 hH4 hH2
    generalize W.heap.size = gg at KQ4 ⊢
    have KN4 := hide (show Blk w4 w.heap.size (cellsI noIno) 44 from KB0.out.below HB4.out hlw)
    have B4 := hide (HB0.out.trans (HB4.out.mono HB0.out.size))
    go_wp2_with (first | (refine wpList_load_row rfl 44 _ rfl gg rfl 44 (cellsI (inoI [z0, (x1 : Int), (x2 : Int), (x3 : Int), (x4 : Int), (x5 : Int), (x6 : Int), (x7 : Int), (x8 : Int)] (xs : Int) [d0, d1, d2, d3, d4, d5, d6, d7, d8, d9, d10, d11] (xp : Int) (xq : Int))) (0, 0) _ KQ4.out Tryd.underlying44 rfl info24 ?_) | (go_at_call 56; fail))
    refine (specI_any z0 (x1 : Int) (x2 : Int) (x3 : Int) (x4 : Int) (x5 : Int) (x6 : Int) (x7 : Int) (x8 : Int) (xs : Int) [d0, d1, d2, d3, d4, d5, d6, d7, d8, d9, d10, d11] (xp : Int) (xq : Int) _ rfl).mono ?_
    rintro e w5 ⟨v5, rfl, o5, b5⟩
    have K5 := hide (And.intro (KQ4.out.below b5 KQ4.out.lt) (And.intro (KN4.out.below b5 KN4.out.lt) (And.intro (B4.out.trans (b5.mono B4.out.size)) (HB4.out.trans (b5.mono HB4.out.size)))))
    have O5 := hide o5
    clear b5 o5 KN4 B4 KQ4 HB4
    cases r with
    | false =>
      have hc : codeI z0 (x1 : Int) (x2 : Int) (x3 : Int) (x4 : Int) (x5 : Int) (x6 : Int) (x7 : Int) (x8 : Int) (xs : Int) [d0, d1, d2, d3, d4, d5, d6, d7, d8, d9, d10, d11] (xp : Int) (xq : Int) = 7 := by unfold codeI; rw [HRB.out.1]; rfl
      rw [hc]
      go_wp2_with (refine wpList_store_row rfl 44 _ _ rfl w.heap.size #[.int .i64 0, .int .i64 0, .int .i64 0, .int .i64 0, .int .i64 0, .int .i64 0, .int .i64 0, .int .i64 0, .int .i64 0, .int .i64 0, .int .i64 0, .int .i64 0, .int .i64 0, .int .i64 0, .int .i64 0, .int .i64 0, .int .i64 0, .int .i64 0, .int .i64 0, .int .i64 0, .int .i64 0, .int .i64 0, .int .i64 0, .int .i64 0] rfl rfl 44 _ K5.out.2.1 info24 rfl (cellsI_one noIno) ?_)
      refine bodyPost_ret (v := .tuple #[.agg (cellsI noIno), .int .i64 21]) ?_ rfl ⟨rfl, below_setRow K5.out.2.2.1 (Nat.le_refl _) _⟩
      exact results_row_tmp rfl _ _ w.heap.size 44 (cellsI noIno) (0, 0) _ _ rfl rfl (K5.out.2.1.row _) Tryd.underlying44 rfl info24
    | true =>
      have hc : codeI z0 (x1 : Int) (x2 : Int) (x3 : Int) (x4 : Int) (x5 : Int) (x6 : Int) (x7 : Int) (x8 : Int) (xs : Int) [d0, d1, d2, d3, d4, d5, d6, d7, d8, d9, d10, d11] (xp : Int) (xq : Int) = 0 := by unfold codeI; rw [HRB.out.1]; rfl
      have hl : (encI z0 (x1 : Int) (x2 : Int) (x3 : Int) (x4 : Int) (x5 : Int) (x6 : Int) (x7 : Int) (x8 : Int) (xs : Int) [d0, d1, d2, d3, d4, d5, d6, d7, d8, d9, d10, d11] (xp : Int) (xq : Int)).length = 128 := by unfold encI; rw [if_pos HRB.out.1]; exact bytesIno_len _ _ _ _ _ _ _ _ _ _ _ _ _ rfl
      rw [hc]
      have o5 := O5.out
      obtain ⟨g5, of5, cp5, rfl, hg5, _, _, hcell5⟩ := (Rd.own o5).partsC (by rw [hl]; omega)
      have v1 := run_convert_bytes_arg (P := Tryd.prog) w5 24 5 Tryd.underlying24 Tryd.underlying5 bd off 128 cap zs HZ0.out (HCell.out w5 K5.out.2.2.2) 9 Tryd.underlying9
      have v2 := run_convert_bytes_arg (P := Tryd.prog) w5 24 5 Tryd.underlying24 Tryd.underlying5 g5 of5 (encI z0 (x1 : Int) (x2 : Int) (x3 : Int) (x4 : Int) (x5 : Int) (x6 : Int) (x7 : Int) (x8 : Int) (xs : Int) [d0, d1, d2, d3, d4, d5, d6, d7, d8, d9, d10, d11] (xp : Int) (xq : Int)).length cp5 (encI z0 (x1 : Int) (x2 : Int) (x3 : Int) (x4 : Int) (x5 : Int) (x6 : Int) (x7 : Int) (x8 : Int) (xs : Int) [d0, d1, d2, d3, d4, d5, d6, d7, d8, d9, d10, d11] (xp : Int) (xq : Int)) rfl hcell5 9 Tryd.underlying9
      cases b with
      | true =>
        have he : (encI z0 (x1 : Int) (x2 : Int) (x3 : Int) (x4 : Int) (x5 : Int) (x6 : Int) (x7 : Int) (x8 : Int) (xs : Int) [d0, d1, d2, d3, d4, d5, d6, d7, d8, d9, d10, d11] (xp : Int) (xq : Int)) = zs := by simpa using HRB.out.2.1
        rw [he] at v2 ⊢
        rw [HZ0.out] at v2 ⊢
        generalize strOfNums zs = S at v1 v2
        clear hcell5 o5 he hc hl
        go_wp2_with (first | (refine wpList_load_row rfl 44 _ rfl gg rfl 44 (cellsI (inoI [z0, (x1 : Int), (x2 : Int), (x3 : Int), (x4 : Int), (x5 : Int), (x6 : Int), (x7 : Int), (x8 : Int)] (xs : Int) [d0, d1, d2, d3, d4, d5, d6, d7, d8, d9, d10, d11] (xp : Int) (xq : Int))) (0, 0) _ K5.out.1 Tryd.underlying44 rfl info24 ?_) | (refine wpList_store_row rfl 44 _ _ rfl w.heap.size (cellsI (inoI [z0, (x1 : Int), (x2 : Int), (x3 : Int), (x4 : Int), (x5 : Int), (x6 : Int), (x7 : Int), (x8 : Int)] (xs : Int) [d0, d1, d2, d3, d4, d5, d6, d7, d8, d9, d10, d11] (xp : Int) (xq : Int))) rfl rfl 44 _ K5.out.2.1 info24 rfl (cellsI_one _) ?_))
        refine bodyPost_ret (v := .tuple #[.agg (cellsI (inoI [z0, (x1 : Int), (x2 : Int), (x3 : Int), (x4 : Int), (x5 : Int), (x6 : Int), (x7 : Int), (x8 : Int)] (xs : Int) [d0, d1, d2, d3, d4, d5, d6, d7, d8, d9, d10, d11] (xp : Int) (xq : Int))), .int .i64 0]) ?_ rfl ⟨rfl, below_setRow K5.out.2.2.1 (Nat.le_refl _) _⟩
        exact results_row_tmp rfl _ _ w.heap.size 44 (cellsI (inoI [z0, (x1 : Int), (x2 : Int), (x3 : Int), (x4 : Int), (x5 : Int), (x6 : Int), (x7 : Int), (x8 : Int)] (xs : Int) [d0, d1, d2, d3, d4, d5, d6, d7, d8, d9, d10, d11] (xp : Int) (xq : Int))) (0, 0) _ _ rfl rfl (K5.out.2.1.row _) Tryd.underlying44 rfl info24
      | false =>
        have hne : ¬ (strOfNums (encI z0 (x1 : Int) (x2 : Int) (x3 : Int) (x4 : Int) (x5 : Int) (x6 : Int) (x7 : Int) (x8 : Int) (xs : Int) [d0, d1, d2, d3, d4, d5, d6, d7, d8, d9, d10, d11] (xp : Int) (xq : Int))).toList = (strOfNums zs).toList := fun h => by
          have h1 := strOf_inj HRB.out.2.2.1 HRB.out.2.2.2 h
          have h2 := HRB.out.2.1
          rw [decide_eq_true h1] at h2
          cases h2
        rw [hl] at v2 ⊢
        generalize strOfNums zs = S1 at v1 hne
        generalize strOfNums (encI z0 (x1 : Int) (x2 : Int) (x3 : Int) (x4 : Int) (x5 : Int) (x6 : Int) (x7 : Int) (x8 : Int) (xs : Int) [d0, d1, d2, d3, d4, d5, d6, d7, d8, d9, d10, d11] (xp : Int) (xq : Int)) = S2 at v2 hne
        have hne1 : (S2.toList == S1.toList) = false := by simpa using hne
        clear hne
        clear hcell5 o5 hc hl
        go_wp2_with (refine wpList_store_row rfl 44 _ _ rfl w.heap.size #[.int .i64 0, .int .i64 0, .int .i64 0, .int .i64 0, .int .i64 0, .int .i64 0, .int .i64 0, .int .i64 0, .int .i64 0, .int .i64 0, .int .i64 0, .int .i64 0, .int .i64 0, .int .i64 0, .int .i64 0, .int .i64 0, .int .i64 0, .int .i64 0, .int .i64 0, .int .i64 0, .int .i64 0, .int .i64 0, .int .i64 0, .int .i64 0] rfl rfl 44 _ K5.out.2.1 info24 rfl (cellsI_one noIno) ?_)
        refine bodyPost_ret (v := .tuple #[.agg (cellsI noIno), .int .i64 21]) ?_ rfl ⟨rfl, below_setRow K5.out.2.2.1 (Nat.le_refl _) _⟩
        exact results_row_tmp rfl _ _ w.heap.size 44 (cellsI noIno) (0, 0) _ _ rfl rfl (K5.out.2.1.row _) Tryd.underlying44 rfl info24
end Go.Proofs.YtlgafpjmifacmaaDoor
