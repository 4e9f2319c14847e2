/- The program tells a root: told at Root; DecodeRoot. The program's DecodeRoot. The model reads a root: l02RootOf. Bytes that are a root, read by the program and by the model: the same. The model's DecodeRoot, and the comparison of two roots. -/
import Derived.Test.YtfpfhmnmcjnmaaaDoorRootR
import Derived.Test.YtfpfhmnmcjnmaaaDoorRootI
import Derived.Test.YtfpfhmnmcjnmaaaDoorGet
import Derived.Deep.RegionHeld3
import Derived.Test.YtfpfhmnmcjnmaaaDoorRootH
import Derived.Laws.BytesArg
namespace Go.Proofs.YtfpfhmnmcjnmaaaDoor
set_option linter.unusedVariables false
set_option linter.unusedSimpArgs false
open Go.RowKit


def noRoot : List Int := List.replicate 15 0

set_option maxRecDepth 100000 in
set_option maxHeartbeats 1000000 in
theorem toldR_ok (xs : List Int) (w : World) (hx : xs.length = 15) :
    Calls Tryd.prog 62 #[.agg (cellsI xs), .nilIface] w fun e w' => e = .returned (.tuple #[.agg (cellsI xs), .int .i64 0]) ∧ Below w.heap.size w w' := by
  have HZ := hide (show (cellsI xs).size = 15 from by rw [cellsI_size]; exact hx)
  have kB := (Blk.new w (cellsI xs) 36).alloc (.cells (cellsI noRoot) 36)
  have kC := Blk.new (w.alloc (.cells (cellsI xs) 36)) (cellsI noRoot) 36
  rw [World.size_alloc] at kC
  have K := hide (And.intro kB (And.intro kC (((Below.refl w.heap.size w).alloc (Nat.le_refl _) (.cells (cellsI xs) 36)).alloc (by simp) (.cells (cellsI noRoot) 36))))
  clear kB kC hx
  go_enter Tryd.func62, Tryd.ntmps62
  go_wp2_with (first | (refine wpList_load_row rfl 36 _ rfl w.heap.size rfl 36 (cellsI xs) (0, 0) _ K.out.1 Tryd.underlying36 rfl (by rw [HZ.out]; exact info15) ?_) | (refine wpList_store_row rfl 36 _ _ rfl (w.heap.size + 1) (cellsI xs) rfl rfl 36 _ K.out.2.1 (by rw [HZ.out]; exact info15) (by rw [HZ.out]; rfl) (cellsI_one _) ?_))
  refine bodyPost_ret (v := .tuple #[.agg (cellsI xs), .int .i64 0]) ?_ rfl ⟨rfl, below_setRow K.out.2.2 (by omega) _⟩
  exact results_row_tmp rfl _ _ (w.heap.size + 1) 36 (cellsI xs) (0, 0) _ _ rfl rfl (K.out.2.1.row _) Tryd.underlying36 rfl (by rw [HZ.out]; exact info15)

set_option maxRecDepth 100000 in
set_option maxHeartbeats 1000000 in
theorem toldR_bad (xs : List Int) (lo n : Nat) (v : Value) (c : Int) (w : World) (hx : xs.length = 15) (hv : Flt w lo n v c) (hg : ErrT w) :
    Calls Tryd.prog 62 #[.agg (cellsI xs), v] w fun e w' => e = .returned (.tuple #[.agg (cellsI noRoot), .int .i64 c]) ∧ Below w.heap.size w w' := by
  have HZ := hide (show (cellsI xs).size = 15 from by rw [cellsI_size]; exact hx)
  have HV := hide (And.intro hv hg)
  obtain ⟨t', x', rfl⟩ := hv.iface
  clear hv hg hx
  go_enter Tryd.func62, Tryd.ntmps62
  have kB := ((Blk.new (w.alloc (.cells (cellsI xs) 36)) #[.int .i64 0, .int .i64 0, .int .i64 0, .int .i64 0, .int .i64 0, .int .i64 0, .int .i64 0, .int .i64 0, .int .i64 0, .int .i64 0, .int .i64 0, .int .i64 0, .int .i64 0, .int .i64 0, .int .i64 0] 36).alloc (.cells #[.int .i64 0, .int .i64 0, .int .i64 0, .int .i64 0, .int .i64 0, .int .i64 0, .int .i64 0, .int .i64 0, .int .i64 0, .int .i64 0, .int .i64 0, .int .i64 0, .int .i64 0, .int .i64 0, .int .i64 0] 36))
  have kC := Blk.new ((w.alloc (.cells (cellsI xs) 36)).alloc (.cells #[.int .i64 0, .int .i64 0, .int .i64 0, .int .i64 0, .int .i64 0, .int .i64 0, .int .i64 0, .int .i64 0, .int .i64 0, .int .i64 0, .int .i64 0, .int .i64 0, .int .i64 0, .int .i64 0, .int .i64 0] 36)) #[.int .i64 0, .int .i64 0, .int .i64 0, .int .i64 0, .int .i64 0, .int .i64 0, .int .i64 0, .int .i64 0, .int .i64 0, .int .i64 0, .int .i64 0, .int .i64 0, .int .i64 0, .int .i64 0, .int .i64 0] 36
  rw [World.size_alloc] at kB
  rw [World.size_alloc, World.size_alloc] at kC
  have K := hide (And.intro kB (And.intro kC ((((Below.refl w.heap.size w).alloc (Nat.le_refl _) (.cells (cellsI xs) 36)).alloc (by simp) (.cells #[.int .i64 0, .int .i64 0, .int .i64 0, .int .i64 0, .int .i64 0, .int .i64 0, .int .i64 0, .int .i64 0, .int .i64 0, .int .i64 0, .int .i64 0, .int .i64 0, .int .i64 0, .int .i64 0, .int .i64 0] 36)).alloc (by simp; omega) (.cells #[.int .i64 0, .int .i64 0, .int .i64 0, .int .i64 0, .int .i64 0, .int .i64 0, .int .i64 0, .int .i64 0, .int .i64 0, .int .i64 0, .int .i64 0, .int .i64 0, .int .i64 0, .int .i64 0, .int .i64 0] 36))))
  clear kB kC
  go_wp2
  generalize hW : ((w.alloc (.cells (cellsI xs) 36)).alloc (.cells #[.int .i64 0, .int .i64 0, .int .i64 0, .int .i64 0, .int .i64 0, .int .i64 0, .int .i64 0, .int .i64 0, .int .i64 0, .int .i64 0, .int .i64 0, .int .i64 0, .int .i64 0, .int .i64 0, .int .i64 0] 36)).alloc (.cells #[.int .i64 0, .int .i64 0, .int .i64 0, .int .i64 0, .int .i64 0, .int .i64 0, .int .i64 0, .int .i64 0, .int .i64 0, .int .i64 0, .int .i64 0, .int .i64 0, .int .i64 0, .int .i64 0, .int .i64 0] 36) = W at K ⊢
  have hWs : W.heap.size = w.heap.size + 3 := by rw [← hW]; simp
  clear hW
  have q0 : W.cell? ⟨w.heap.size + 1 + 1, 0, none⟩ = some (.int .i64 0) := K.out.2.1.cell 0
  have q1 : W.cell? ⟨w.heap.size + 1 + 1, 1, none⟩ = some (.int .i64 0) := K.out.2.1.cell 1
  have q2 : W.cell? ⟨w.heap.size + 1 + 1, 2, none⟩ = some (.int .i64 0) := K.out.2.1.cell 2
  have q3 : W.cell? ⟨w.heap.size + 1 + 1, 3, none⟩ = some (.int .i64 0) := K.out.2.1.cell 3
  have q4 : W.cell? ⟨w.heap.size + 1 + 1, 4, none⟩ = some (.int .i64 0) := K.out.2.1.cell 4
  have q5 : W.cell? ⟨w.heap.size + 1 + 1, 5, none⟩ = some (.int .i64 0) := K.out.2.1.cell 5
  have q6 : W.cell? ⟨w.heap.size + 1 + 1, 6, none⟩ = some (.int .i64 0) := K.out.2.1.cell 6
  have q7 : W.cell? ⟨w.heap.size + 1 + 1, 7, none⟩ = some (.int .i64 0) := K.out.2.1.cell 7
  have q8 : W.cell? ⟨w.heap.size + 1 + 1, 8, none⟩ = some (.int .i64 0) := K.out.2.1.cell 8
  have q9 : W.cell? ⟨w.heap.size + 1 + 1, 9, none⟩ = some (.int .i64 0) := K.out.2.1.cell 9
  have q10 : W.cell? ⟨w.heap.size + 1 + 1, 10, none⟩ = some (.int .i64 0) := K.out.2.1.cell 10
  have q11 : W.cell? ⟨w.heap.size + 1 + 1, 11, none⟩ = some (.int .i64 0) := K.out.2.1.cell 11
  have q12 : W.cell? ⟨w.heap.size + 1 + 1, 12, none⟩ = some (.int .i64 0) := K.out.2.1.cell 12
  have q13 : W.cell? ⟨w.heap.size + 1 + 1, 13, none⟩ = some (.int .i64 0) := K.out.2.1.cell 13
  have q14 : W.cell? ⟨w.heap.size + 1 + 1, 14, none⟩ = some (.int .i64 0) := K.out.2.1.cell 14
  have r0 : W.cell? ⟨w.heap.size + 1, 0, none⟩ = some (.int .i64 0) := K.out.1.cell 0
  have r1 : W.cell? ⟨w.heap.size + 1, 1, none⟩ = some (.int .i64 0) := K.out.1.cell 1
  have r2 : W.cell? ⟨w.heap.size + 1, 2, none⟩ = some (.int .i64 0) := K.out.1.cell 2
  have r3 : W.cell? ⟨w.heap.size + 1, 3, none⟩ = some (.int .i64 0) := K.out.1.cell 3
  have r4 : W.cell? ⟨w.heap.size + 1, 4, none⟩ = some (.int .i64 0) := K.out.1.cell 4
  have r5 : W.cell? ⟨w.heap.size + 1, 5, none⟩ = some (.int .i64 0) := K.out.1.cell 5
  have r6 : W.cell? ⟨w.heap.size + 1, 6, none⟩ = some (.int .i64 0) := K.out.1.cell 6
  have r7 : W.cell? ⟨w.heap.size + 1, 7, none⟩ = some (.int .i64 0) := K.out.1.cell 7
  have r8 : W.cell? ⟨w.heap.size + 1, 8, none⟩ = some (.int .i64 0) := K.out.1.cell 8
  have r9 : W.cell? ⟨w.heap.size + 1, 9, none⟩ = some (.int .i64 0) := K.out.1.cell 9
  have r10 : W.cell? ⟨w.heap.size + 1, 10, none⟩ = some (.int .i64 0) := K.out.1.cell 10
  have r11 : W.cell? ⟨w.heap.size + 1, 11, none⟩ = some (.int .i64 0) := K.out.1.cell 11
  have r12 : W.cell? ⟨w.heap.size + 1, 12, none⟩ = some (.int .i64 0) := K.out.1.cell 12
  have r13 : W.cell? ⟨w.heap.size + 1, 13, none⟩ = some (.int .i64 0) := K.out.1.cell 13
  have r14 : W.cell? ⟨w.heap.size + 1, 14, none⟩ = some (.int .i64 0) := K.out.1.cell 14
  have hfz : ∀ o, W.frozen? ⟨w.heap.size + 1, o, none⟩ = false := fun o => K.out.1.frozen o
  go_region_held (fun w' => w'.cell? ⟨w.heap.size + 1 + 1, 0, none⟩ = some (.int .i64 0) ∧ w'.cell? ⟨w.heap.size + 1 + 1, 1, none⟩ = some (.int .i64 0) ∧ w'.cell? ⟨w.heap.size + 1 + 1, 2, none⟩ = some (.int .i64 0) ∧ w'.cell? ⟨w.heap.size + 1 + 1, 3, none⟩ = some (.int .i64 0) ∧ w'.cell? ⟨w.heap.size + 1 + 1, 4, none⟩ = some (.int .i64 0) ∧ w'.cell? ⟨w.heap.size + 1 + 1, 5, none⟩ = some (.int .i64 0) ∧ w'.cell? ⟨w.heap.size + 1 + 1, 6, none⟩ = some (.int .i64 0) ∧ w'.cell? ⟨w.heap.size + 1 + 1, 7, none⟩ = some (.int .i64 0) ∧ w'.cell? ⟨w.heap.size + 1 + 1, 8, none⟩ = some (.int .i64 0) ∧ w'.cell? ⟨w.heap.size + 1 + 1, 9, none⟩ = some (.int .i64 0) ∧ w'.cell? ⟨w.heap.size + 1 + 1, 10, none⟩ = some (.int .i64 0) ∧ w'.cell? ⟨w.heap.size + 1 + 1, 11, none⟩ = some (.int .i64 0) ∧ w'.cell? ⟨w.heap.size + 1 + 1, 12, none⟩ = some (.int .i64 0) ∧ w'.cell? ⟨w.heap.size + 1 + 1, 13, none⟩ = some (.int .i64 0) ∧ w'.cell? ⟨w.heap.size + 1 + 1, 14, none⟩ = some (.int .i64 0)) (go_keep) ((go_at_call 48; refine (codeOf_any n _ c lo _ (HV.out.1.below (K.out.2.2.drew.mono (by omega))) (HV.out.2.below K.out.2.2.drew)).mono ?_; rintro e w5 ⟨rfl, b5⟩; have re := (bcell b5).1; have fe := (bcell b5).2))
  have HB5 := hide b5
  clear q0 r0 q1 r1 q2 r2 q3 r3 q4 r4 q5 r5 q6 r6 q7 r7 q8 r8 q9 r9 q10 r10 q11 r11 q12 r12 q13 r13 q14 r14 re fe hfz b5
  have kb5 : Blk w5 (w.heap.size + 1) (cellsI noRoot) 36 := Blk.below (w := W.drew) K.out.1 HB5.out (by show _ < W.heap.size; omega)
  have HF := hide (And.intro (Blk.cells noRoot 0 kb5 (by decide)) (below_cells (b := w.heap.size + 1) (by omega) (noRoot.map (Value.int .i64)) 0 (K.out.2.2.trans ((((Below.refl _ W).drew).trans HB5.out).mono (by show w.heap.size ≤ W.heap.size; omega)))))
  clear kb5
  go_wp2
  refine bodyPost_ret (v := .tuple #[.agg (cellsI noRoot), .int .i64 c]) ?_ rfl ⟨rfl, HF.out.2⟩
  exact results_row_tmp rfl _ _ (w.heap.size + 1) 36 (cellsI noRoot) (0, 0) _ _ rfl rfl HF.out.1 Tryd.underlying36 rfl info15
end Go.Proofs.YtfpfhmnmcjnmaaaDoor

namespace Go.Proofs.YtfpfhmnmcjnmaaaDoor
set_option linter.unusedVariables false
set_option linter.unusedSimpArgs false
open Go.RowKit

/-- What DecodeRoot's regions leave: a root that was read, and whether it is told. -/
def ReadR (zs : List Int) (s : Int) (ds : List Int) (p q : Int) (ok : Bool) : Prop :=
  ds.length = 12 ∧ (ok = true → RootAt zs 0 s ds p q ∧ rightR s ds p q = true ∧ zs.length = 64) ∧ (zs.length = 64 → RootAt zs 0 s ds p q ∧ ok = rightR s ds p q)

theorem readR_of (zs : List Int) (s : Int) (ds : List Int) (p q : Int) (ok2 : Bool) (p2 : Nat) (ha : Adv true zs 0 64 ok2 p2) (hv : ok2 = true → RootAt zs 0 s ds p q) (hd : ds.length = 12) :
    ReadR zs s ds p q (ok2 && ((((zs.drop p2).take (64 - p2)).all fun z => decide (z = 0)) && decide (zs.length = 64)) && rightR s ds p q) := by
  refine ⟨hd, fun h => ?_, fun h => ?_⟩
  · simp only [Bool.and_eq_true, decide_eq_true_eq] at h
    exact ⟨hv h.1.1, h.2, h.1.2.2⟩
  · rcases ha with ⟨h1, _, _, h4⟩ | ⟨_, h2, _⟩
    · subst h4 h1
      refine ⟨hv rfl, ?_⟩
      simp [h]
    · exact absurd ⟨rfl, by omega⟩ h2

set_option maxRecDepth 100000 in
set_option maxHeartbeats 1000000 in
theorem implDR_any (v : Value) (zs : List Int) (w : World) (h : Rd .u8 w v zs) (hbd : ∀ z ∈ zs, 0 ≤ z ∧ z < 256) (hz : zs.length ≤ 140737488355328) (hg : ErrT w) :
    Calls Tryd.prog 25 #[v] w fun e w' => ∃ s ds p q ok, ReadR zs s ds p q ok ∧ e = .returned (.tuple #[.agg (cellsI (if ok = true then rootI s ds p q else noRoot)), .int .i64 (if ok = true then 0 else 21)]) ∧ Below w.heap.size w w' := by
  have HB := hide hbd
  have HR := hide (And.intro h hg)
  have hb0 : ∀ C, Below w.heap.size w (w.alloc C) := fun C => (Below.refl _ _).alloc (Nat.le_refl _) _
  have HB0 := hide hb0
  clear hbd hg hb0
  obtain ⟨a, cap, rfl, _⟩ := h
  go_enter Tryd.func25, Tryd.ntmps25
  go_wp2_with fail
  refine (newReader_any _ zs _ (HR.out.1.below (HB0.out _))).mono ?_
  rintro e w1 ⟨rfl, r1, b1⟩
  have k1 : Blk w1 w.heap.size #[.int .i64 0, .int .i64 0, .int .i64 0, .int .i64 0, .int .i64 0, .int .i64 0, .int .i64 0, .int .i64 0, .int .i64 0, .int .i64 0, .int .i64 0, .int .i64 0, .int .i64 0, .int .i64 0, .int .i64 0] 36 := (Blk.new w #[.int .i64 0, .int .i64 0, .int .i64 0, .int .i64 0, .int .i64 0, .int .i64 0, .int .i64 0, .int .i64 0, .int .i64 0, .int .i64 0, .int .i64 0, .int .i64 0, .int .i64 0, .int .i64 0, .int .i64 0] 36).below b1 (by simp)
  have H1 := hide (And.intro r1 (And.intro k1 ((HB0.out (.cells #[.int .i64 0, .int .i64 0, .int .i64 0, .int .i64 0, .int .i64 0, .int .i64 0, .int .i64 0, .int .i64 0, .int .i64 0, .int .i64 0, .int .i64 0, .int .i64 0, .int .i64 0, .int .i64 0, .int .i64 0] 36)).trans (b1.mono (by simp)))))
  clear r1 b1 k1
  go_wp2_with fail
  have H1' := H1.out.1
  rw [World.size_alloc] at H1'
  refine (readRoot_any _ _ _ _ true _ zs 0 H1' hz HB.out).mono ?_
  rintro e w2 ⟨s, ds, p, q, ok2, p2, rfl, hdl, r2, a2, v2, g2⟩
  obtain ⟨d0, d1, d2, d3, d4, d5, d6, d7, d8, d9, d10, d11, rfl⟩ := list12 hdl
  have hs2 := g2.size
  have hlt1 := H1'.ck.lt
  have k2 : Blk w2 w.heap.size #[.int .i64 0, .int .i64 0, .int .i64 0, .int .i64 0, .int .i64 0, .int .i64 0, .int .i64 0, .int .i64 0, .int .i64 0, .int .i64 0, .int .i64 0, .int .i64 0, .int .i64 0, .int .i64 0, .int .i64 0] 36 := (g2.block _ (by omega) (by simp)).trans H1.out.2.1
  have hb12 : w.heap.size + 1 < w2.heap.size := r2.ck.lt
  have HZ := hide (show (cellsI (rootI s [d0, d1, d2, d3, d4, d5, d6, d7, d8, d9, d10, d11] p q)).size = 15 from rfl)
  have H2 := hide (show Rdr _ ((w2.alloc (.cells #[.int .i64 0, .int .i64 0, .int .i64 0, .int .i64 0, .int .i64 0, .int .i64 0, .int .i64 0, .int .i64 0, .int .i64 0, .int .i64 0, .int .i64 0, .int .i64 0, .int .i64 0, .int .i64 0, .int .i64 0] 36)).setRow w2.heap.size (cellsI (rootI s [d0, d1, d2, d3, d4, d5, d6, d7, d8, d9, d10, d11] p q))) (w.heap.size + 1) _ ok2 _ zs p2 ∧ Blk ((w2.alloc (.cells #[.int .i64 0, .int .i64 0, .int .i64 0, .int .i64 0, .int .i64 0, .int .i64 0, .int .i64 0, .int .i64 0, .int .i64 0, .int .i64 0, .int .i64 0, .int .i64 0, .int .i64 0, .int .i64 0, .int .i64 0] 36)).setRow w2.heap.size (cellsI (rootI s [d0, d1, d2, d3, d4, d5, d6, d7, d8, d9, d10, d11] p q))) w.heap.size #[.int .i64 0, .int .i64 0, .int .i64 0, .int .i64 0, .int .i64 0, .int .i64 0, .int .i64 0, .int .i64 0, .int .i64 0, .int .i64 0, .int .i64 0, .int .i64 0, .int .i64 0, .int .i64 0, .int .i64 0] 36 ∧ Below w.heap.size w ((w2.alloc (.cells #[.int .i64 0, .int .i64 0, .int .i64 0, .int .i64 0, .int .i64 0, .int .i64 0, .int .i64 0, .int .i64 0, .int .i64 0, .int .i64 0, .int .i64 0, .int .i64 0, .int .i64 0, .int .i64 0, .int .i64 0] 36)).setRow w2.heap.size (cellsI (rootI s [d0, d1, d2, d3, d4, d5, d6, d7, d8, d9, d10, d11] p q))) ∧ Blk ((w2.alloc (.cells #[.int .i64 0, .int .i64 0, .int .i64 0, .int .i64 0, .int .i64 0, .int .i64 0, .int .i64 0, .int .i64 0, .int .i64 0, .int .i64 0, .int .i64 0, .int .i64 0, .int .i64 0, .int .i64 0, .int .i64 0] 36)).setRow w2.heap.size (cellsI (rootI s [d0, d1, d2, d3, d4, d5, d6, d7, d8, d9, d10, d11] p q))) w2.heap.size (cellsI (rootI s [d0, d1, d2, d3, d4, d5, d6, d7, d8, d9, d10, d11] p q)) 36 from
    ⟨(r2.alloc _).row _ hb12 (Blk.new w2 (cellsI (List.replicate 15 0)) 36) (by decide), (setRow_block _ _ _ _ (by omega)).trans (k2.alloc _), below_setRow ((H1.out.2.2.grown g2 (by omega) (fun k e => by cases e; omega)).alloc (by omega) _) (by omega) _, (Blk.new w2 #[.int .i64 0, .int .i64 0, .int .i64 0, .int .i64 0, .int .i64 0, .int .i64 0, .int .i64 0, .int .i64 0, .int .i64 0, .int .i64 0, .int .i64 0, .int .i64 0, .int .i64 0, .int .i64 0, .int .i64 0] 36).row _⟩)
  have HA := hide (And.intro a2 (And.intro v2 hdl))
  have hp2 : p2 ≤ 64 := by rcases a2 with ⟨_, _, _, h⟩ | ⟨_, _, h⟩ <;> omega
  clear r2 k2 g2 a2 v2 hdl H1' H1
  go_wp2_with (first | (refine wpList_store_row rfl 36 _ _ rfl w2.heap.size (cellsI (rootI s [d0, d1, d2, d3, d4, d5, d6, d7, d8, d9, d10, d11] p q)) rfl rfl 36 _ (Blk.new w2 #[.int .i64 0, .int .i64 0, .int .i64 0, .int .i64 0, .int .i64 0, .int .i64 0, .int .i64 0, .int .i64 0, .int .i64 0, .int .i64 0, .int .i64 0, .int .i64 0, .int .i64 0, .int .i64 0, .int .i64 0] 36) info15 rfl (cellsI_one _) ?_) | (go_at_call 60; fail))
  generalize hW3 : (w2.alloc (.cells #[.int .i64 0, .int .i64 0, .int .i64 0, .int .i64 0, .int .i64 0, .int .i64 0, .int .i64 0, .int .i64 0, .int .i64 0, .int .i64 0, .int .i64 0, .int .i64 0, .int .i64 0, .int .i64 0, .int .i64 0] 36)).setRow w2.heap.size (cellsI (rootI s [d0, d1, d2, d3, d4, d5, d6, d7, d8, d9, d10, d11] p q)) = w3 at H2 ⊢
  clear hW3
  refine (end_any _ _ _ _ ok2 _ zs p2 64 H2.out.1 hp2 (by omega) (by omega) hz).mono ?_
  rintro e w4 ⟨rfl, g4, p4, r4⟩
  have hs4 := g4.size
  have hl3 := H2.out.2.2.2.lt
  have k4 : Blk w4 w.heap.size #[.int .i64 0, .int .i64 0, .int .i64 0, .int .i64 0, .int .i64 0, .int .i64 0, .int .i64 0, .int .i64 0, .int .i64 0, .int .i64 0, .int .i64 0, .int .i64 0, .int .i64 0, .int .i64 0, .int .i64 0] 36 := (g4.block _ (by omega) (by simp)).trans H2.out.2.1
  have kr4 : Blk w4 w2.heap.size (cellsI (rootI s [d0, d1, d2, d3, d4, d5, d6, d7, d8, d9, d10, d11] p q)) 36 := (g4.block _ (by omega) (by simp; omega)).trans H2.out.2.2.2
  have H4 := hide (And.intro r4 (And.intro k4 (And.intro (H2.out.2.2.1.grown g4 (by omega) (fun k e => by cases e; omega)) kr4)))
  clear r4 k4 kr4 g4 H2
  have hl4 : w2.heap.size < w4.heap.size := by omega
  have hl5 : w.heap.size + 1 < w4.heap.size := by omega
  have cc : w4.cell? ⟨w.heap.size + 1, 0, none⟩ = some (.int .i64 21) := H4.out.1.ck.1
  have q0 : w4.cell? ⟨w2.heap.size, 0, none⟩ = some (.int .i64 s) := H4.out.2.2.2.cell 0
  have q1 : w4.cell? ⟨w2.heap.size, 1, none⟩ = some (.int .i64 d0) := H4.out.2.2.2.cell 1
  have q2 : w4.cell? ⟨w2.heap.size, 2, none⟩ = some (.int .i64 d1) := H4.out.2.2.2.cell 2
  have q3 : w4.cell? ⟨w2.heap.size, 3, none⟩ = some (.int .i64 d2) := H4.out.2.2.2.cell 3
  have q4 : w4.cell? ⟨w2.heap.size, 4, none⟩ = some (.int .i64 d3) := H4.out.2.2.2.cell 4
  have q5 : w4.cell? ⟨w2.heap.size, 5, none⟩ = some (.int .i64 d4) := H4.out.2.2.2.cell 5
  have q6 : w4.cell? ⟨w2.heap.size, 6, none⟩ = some (.int .i64 d5) := H4.out.2.2.2.cell 6
  have q7 : w4.cell? ⟨w2.heap.size, 7, none⟩ = some (.int .i64 d6) := H4.out.2.2.2.cell 7
  have q8 : w4.cell? ⟨w2.heap.size, 8, none⟩ = some (.int .i64 d7) := H4.out.2.2.2.cell 8
  have q9 : w4.cell? ⟨w2.heap.size, 9, none⟩ = some (.int .i64 d8) := H4.out.2.2.2.cell 9
  have q10 : w4.cell? ⟨w2.heap.size, 10, none⟩ = some (.int .i64 d9) := H4.out.2.2.2.cell 10
  have q11 : w4.cell? ⟨w2.heap.size, 11, none⟩ = some (.int .i64 d10) := H4.out.2.2.2.cell 11
  have q12 : w4.cell? ⟨w2.heap.size, 12, none⟩ = some (.int .i64 d11) := H4.out.2.2.2.cell 12
  have q13 : w4.cell? ⟨w2.heap.size, 13, none⟩ = some (.int .i64 p) := H4.out.2.2.2.cell 13
  have q14 : w4.cell? ⟨w2.heap.size, 14, none⟩ = some (.int .i64 q) := H4.out.2.2.2.cell 14
  go_wp2_with fail
  go_region_held (fun w' => w'.cell? ⟨w.heap.size + 1, 0, none⟩ = some (.int .i64 21) ∧ w'.cell? ⟨w2.heap.size, 0, none⟩ = some (.int .i64 s) ∧ w'.cell? ⟨w2.heap.size, 1, none⟩ = some (.int .i64 d0) ∧ w'.cell? ⟨w2.heap.size, 2, none⟩ = some (.int .i64 d1) ∧ w'.cell? ⟨w2.heap.size, 3, none⟩ = some (.int .i64 d2) ∧ w'.cell? ⟨w2.heap.size, 4, none⟩ = some (.int .i64 d3) ∧ w'.cell? ⟨w2.heap.size, 5, none⟩ = some (.int .i64 d4) ∧ w'.cell? ⟨w2.heap.size, 6, none⟩ = some (.int .i64 d5) ∧ w'.cell? ⟨w2.heap.size, 7, none⟩ = some (.int .i64 d6) ∧ w'.cell? ⟨w2.heap.size, 8, none⟩ = some (.int .i64 d7) ∧ w'.cell? ⟨w2.heap.size, 9, none⟩ = some (.int .i64 d8) ∧ w'.cell? ⟨w2.heap.size, 10, none⟩ = some (.int .i64 d9) ∧ w'.cell? ⟨w2.heap.size, 11, none⟩ = some (.int .i64 d10) ∧ w'.cell? ⟨w2.heap.size, 12, none⟩ = some (.int .i64 d11) ∧ w'.cell? ⟨w2.heap.size, 13, none⟩ = some (.int .i64 p) ∧ w'.cell? ⟨w2.heap.size, 14, none⟩ = some (.int .i64 q)) (go_keep) (first | (go_at_call 55; refine (rootFault_any s [d0, d1, d2, d3, d4, d5, d6, d7, d8, d9, d10, d11] p q 21 _ rfl).mono ?_; rintro e w5 ⟨ev, rfl, hf5, b5⟩; have re5 : ∀ o, w5.cell? ⟨w2.heap.size, o, none⟩ = w4.cell? ⟨w2.heap.size, o, none⟩ := fun o => b5.cell (p := ⟨w2.heap.size, o, none⟩) hl4; have re5b : ∀ o, w5.cell? ⟨w.heap.size + 1, o, none⟩ = w4.cell? ⟨w.heap.size + 1, o, none⟩ := fun o => b5.cell (p := ⟨w.heap.size + 1, o, none⟩) hl5) | (go_at_call 61; refine (inside_both (w.heap.size + 1) (w.heap.size + 1 + 1) _ 21 _ _ ev _ (H4.out.1.ck.below (((Below.refl _ _).drew).trans b5)) (hf5.mono (show w.heap.size + 1 + 1 ≤ w4.heap.size by omega)) (by omega) (Nat.le_trans (show w.heap.size + 1 + 1 ≤ w4.heap.size by omega) b5.size)).mono ?_; rintro e w6 ⟨rfl, hc6, ht6⟩; have re6 : ∀ o, w6.cell? ⟨w2.heap.size, o, none⟩ = w5.cell? ⟨w2.heap.size, o, none⟩ := fun o => World.cell?_of_block (a := ⟨w2.heap.size, o, none⟩) (ht6.1.block _ (Nat.lt_of_lt_of_le (show w2.heap.size < w4.heap.size by omega) b5.size) (by simp; omega)); have re7 := ht6.2.1 0 (by omega)))
  have ht6' : Tch (w.heap.size + 1) w4 w6 := (Tch.of_below hl5 (((Below.refl _ _).drew).trans b5)).trans ht6
  have hs6 := ht6'.1.size
  have k6 : Blk w6 w.heap.size #[.int .i64 0, .int .i64 0, .int .i64 0, .int .i64 0, .int .i64 0, .int .i64 0, .int .i64 0, .int .i64 0, .int .i64 0, .int .i64 0, .int .i64 0, .int .i64 0, .int .i64 0, .int .i64 0, .int .i64 0] 36 := (ht6'.1.block _ (by omega) (by simp)).trans H4.out.2.1
  have kr6 : Blk w6 w2.heap.size (cellsI (rootI s [d0, d1, d2, d3, d4, d5, d6, d7, d8, d9, d10, d11] p q)) 36 := (ht6'.1.block _ (by omega) (by simp; omega)).trans H4.out.2.2.2
  have bb6 : Below w.heap.size w w6 := H4.out.2.2.1.grown ht6'.1 (by omega) (fun k e => by cases e; omega)
  have K6 := hide (And.intro k6 (And.intro hc6 (And.intro kr6 bb6)))
  have HOK := hide (readR_of zs s [d0, d1, d2, d3, d4, d5, d6, d7, d8, d9, d10, d11] p q ok2 p2 HA.out.1 HA.out.2.1 rfl)
  generalize (ok2 && ((((zs.drop p2).take (64 - p2)).all fun z => decide (z = 0)) && decide (zs.length = 64)) && rightR s [d0, d1, d2, d3, d4, d5, d6, d7, d8, d9, d10, d11] p q) = okF at hc6 HOK
  clear q0 q1 q2 q3 q4 q5 q6 q7 q8 q9 q10 q11 q12 q13 q14 re5 re5b re6 re7 cc hf5 b5 ht6 ht6' k6 kr6 bb6 H4 hl4 hl5
  have q0 : w6.cell? ⟨w2.heap.size, 0, none⟩ = some (.int .i64 s) := K6.out.2.2.1.cell 0
  have q1 : w6.cell? ⟨w2.heap.size, 1, none⟩ = some (.int .i64 d0) := K6.out.2.2.1.cell 1
  have q2 : w6.cell? ⟨w2.heap.size, 2, none⟩ = some (.int .i64 d1) := K6.out.2.2.1.cell 2
  have q3 : w6.cell? ⟨w2.heap.size, 3, none⟩ = some (.int .i64 d2) := K6.out.2.2.1.cell 3
  have q4 : w6.cell? ⟨w2.heap.size, 4, none⟩ = some (.int .i64 d3) := K6.out.2.2.1.cell 4
  have q5 : w6.cell? ⟨w2.heap.size, 5, none⟩ = some (.int .i64 d4) := K6.out.2.2.1.cell 5
  have q6 : w6.cell? ⟨w2.heap.size, 6, none⟩ = some (.int .i64 d5) := K6.out.2.2.1.cell 6
  have q7 : w6.cell? ⟨w2.heap.size, 7, none⟩ = some (.int .i64 d6) := K6.out.2.2.1.cell 7
  have q8 : w6.cell? ⟨w2.heap.size, 8, none⟩ = some (.int .i64 d7) := K6.out.2.2.1.cell 8
  have q9 : w6.cell? ⟨w2.heap.size, 9, none⟩ = some (.int .i64 d8) := K6.out.2.2.1.cell 9
  have q10 : w6.cell? ⟨w2.heap.size, 10, none⟩ = some (.int .i64 d9) := K6.out.2.2.1.cell 10
  have q11 : w6.cell? ⟨w2.heap.size, 11, none⟩ = some (.int .i64 d10) := K6.out.2.2.1.cell 11
  have q12 : w6.cell? ⟨w2.heap.size, 12, none⟩ = some (.int .i64 d11) := K6.out.2.2.1.cell 12
  have q13 : w6.cell? ⟨w2.heap.size, 13, none⟩ = some (.int .i64 p) := K6.out.2.2.1.cell 13
  have q14 : w6.cell? ⟨w2.heap.size, 14, none⟩ = some (.int .i64 q) := K6.out.2.2.1.cell 14
  have r0 : w6.cell? ⟨w.heap.size, 0, none⟩ = some (.int .i64 0) := K6.out.1.cell 0
  have r1 : w6.cell? ⟨w.heap.size, 1, none⟩ = some (.int .i64 0) := K6.out.1.cell 1
  have r2 : w6.cell? ⟨w.heap.size, 2, none⟩ = some (.int .i64 0) := K6.out.1.cell 2
  have r3 : w6.cell? ⟨w.heap.size, 3, none⟩ = some (.int .i64 0) := K6.out.1.cell 3
  have r4 : w6.cell? ⟨w.heap.size, 4, none⟩ = some (.int .i64 0) := K6.out.1.cell 4
  have r5 : w6.cell? ⟨w.heap.size, 5, none⟩ = some (.int .i64 0) := K6.out.1.cell 5
  have r6 : w6.cell? ⟨w.heap.size, 6, none⟩ = some (.int .i64 0) := K6.out.1.cell 6
  have r7 : w6.cell? ⟨w.heap.size, 7, none⟩ = some (.int .i64 0) := K6.out.1.cell 7
  have r8 : w6.cell? ⟨w.heap.size, 8, none⟩ = some (.int .i64 0) := K6.out.1.cell 8
  have r9 : w6.cell? ⟨w.heap.size, 9, none⟩ = some (.int .i64 0) := K6.out.1.cell 9
  have r10 : w6.cell? ⟨w.heap.size, 10, none⟩ = some (.int .i64 0) := K6.out.1.cell 10
  have r11 : w6.cell? ⟨w.heap.size, 11, none⟩ = some (.int .i64 0) := K6.out.1.cell 11
  have r12 : w6.cell? ⟨w.heap.size, 12, none⟩ = some (.int .i64 0) := K6.out.1.cell 12
  have r13 : w6.cell? ⟨w.heap.size, 13, none⟩ = some (.int .i64 0) := K6.out.1.cell 13
  have r14 : w6.cell? ⟨w.heap.size, 14, none⟩ = some (.int .i64 0) := K6.out.1.cell 14
  have hfz : ∀ o, w6.frozen? ⟨w.heap.size, o, none⟩ = false := fun o => K6.out.1.frozen o
  have hl6 : w2.heap.size < w6.heap.size := by omega
  have hl7 : w.heap.size + 1 < w6.heap.size := by omega
  have hl8 : w.heap.size < w6.heap.size := by omega
  have hne1 : w.heap.size ≠ w2.heap.size := by omega
  obtain ⟨c1, c2, ev6, c3, c4⟩ := hc6
  clear c1 c2
  rcases c4 with ⟨rfl, rfl⟩ | ⟨rfl, m, c4⟩
  · have hok := HOK
    clear HOK
    go_wp2
    go_region_held (fun w' => w'.cell? ⟨w.heap.size + 1, 1, none⟩ = some .nilIface ∧ w'.cell? ⟨w2.heap.size, 0, none⟩ = some (.int .i64 s) ∧ w'.cell? ⟨w2.heap.size, 1, none⟩ = some (.int .i64 d0) ∧ w'.cell? ⟨w2.heap.size, 2, none⟩ = some (.int .i64 d1) ∧ w'.cell? ⟨w2.heap.size, 3, none⟩ = some (.int .i64 d2) ∧ w'.cell? ⟨w2.heap.size, 4, none⟩ = some (.int .i64 d3) ∧ w'.cell? ⟨w2.heap.size, 5, none⟩ = some (.int .i64 d4) ∧ w'.cell? ⟨w2.heap.size, 6, none⟩ = some (.int .i64 d5) ∧ w'.cell? ⟨w2.heap.size, 7, none⟩ = some (.int .i64 d6) ∧ w'.cell? ⟨w2.heap.size, 8, none⟩ = some (.int .i64 d7) ∧ w'.cell? ⟨w2.heap.size, 9, none⟩ = some (.int .i64 d8) ∧ w'.cell? ⟨w2.heap.size, 10, none⟩ = some (.int .i64 d9) ∧ w'.cell? ⟨w2.heap.size, 11, none⟩ = some (.int .i64 d10) ∧ w'.cell? ⟨w2.heap.size, 12, none⟩ = some (.int .i64 d11) ∧ w'.cell? ⟨w2.heap.size, 13, none⟩ = some (.int .i64 p) ∧ w'.cell? ⟨w2.heap.size, 14, none⟩ = some (.int .i64 q)) (go_keep) ((go_at_call 62; refine (toldR_ok (rootI s [d0, d1, d2, d3, d4, d5, d6, d7, d8, d9, d10, d11] p q) _ rfl).mono ?_; rintro e w7 ⟨he, b7⟩; have he' : e = .returned (.tuple #[.agg #[.int .i64 s, .int .i64 d0, .int .i64 d1, .int .i64 d2, .int .i64 d3, .int .i64 d4, .int .i64 d5, .int .i64 d6, .int .i64 d7, .int .i64 d8, .int .i64 d9, .int .i64 d10, .int .i64 d11, .int .i64 p, .int .i64 q], .int .i64 0]) := he; clear he; subst he'; have re7 : ∀ o, w7.cell? ⟨w2.heap.size, o, none⟩ = w6.cell? ⟨w2.heap.size, o, none⟩ := fun o => b7.cell (p := ⟨w2.heap.size, o, none⟩) hl6; have re8 : ∀ o, w7.cell? ⟨w.heap.size + 1, o, none⟩ = w6.cell? ⟨w.heap.size + 1, o, none⟩ := fun o => b7.cell (p := ⟨w.heap.size + 1, o, none⟩) hl7; have re9 : ∀ o, w7.cell? ⟨w.heap.size, o, none⟩ = w6.cell? ⟨w.heap.size, o, none⟩ := fun o => b7.cell (p := ⟨w.heap.size, o, none⟩) hl8; have fe9 : ∀ o, w7.frozen? ⟨w.heap.size, o, none⟩ = w6.frozen? ⟨w.heap.size, o, none⟩ := fun o => b7.frozen (p := ⟨w.heap.size, o, none⟩) hl8))
    have kb7 : Blk w7 w.heap.size (cellsI noRoot) 36 := Blk.below (w := w6.drew) K6.out.1 b7 hl8
    have HF := hide (And.intro (Blk.cells (rootI s [d0, d1, d2, d3, d4, d5, d6, d7, d8, d9, d10, d11] p q) 0 kb7 (Nat.le_refl 15)) (below_cells (b := w.heap.size) (Nat.le_refl _) ((rootI s [d0, d1, d2, d3, d4, d5, d6, d7, d8, d9, d10, d11] p q).map (Value.int .i64)) 0 (K6.out.2.2.2.trans ((((Below.refl _ w6).drew).trans b7).mono (by show w.heap.size ≤ w6.heap.size; omega)))))
    clear kb7 b7 re7 re8 re9 fe9 hfz c3 q0 r0 q1 r1 q2 r2 q3 r3 q4 r4 q5 r5 q6 r6 q7 r7 q8 r8 q9 r9 q10 r10 q11 r11 q12 r12 q13 r13 q14 r14
    go_wp2
    refine bodyPost_ret (v := .tuple #[.agg (cellsI (rootI s [d0, d1, d2, d3, d4, d5, d6, d7, d8, d9, d10, d11] p q)), .int .i64 0]) ?_ rfl ⟨s, [d0, d1, d2, d3, d4, d5, d6, d7, d8, d9, d10, d11], p, q, true, ?_, rfl, HF.out.2⟩
    · exact results_row_tmp rfl _ _ w.heap.size 36 (cellsI (rootI s [d0, d1, d2, d3, d4, d5, d6, d7, d8, d9, d10, d11] p q)) (0, 0) _ _ rfl rfl HF.out.1 Tryd.underlying36 rfl info15
    · exact hok.out
  · have hok := HOK
    have H6f := hide c4
    obtain ⟨t', x', rfl⟩ := c4.iface
    clear HOK c4
    go_wp2
    go_region_held (fun w' => w'.cell? ⟨w.heap.size + 1, 1, none⟩ = some (.iface t' (.pointer (some x'))) ∧ w'.cell? ⟨w2.heap.size, 0, none⟩ = some (.int .i64 s) ∧ w'.cell? ⟨w2.heap.size, 1, none⟩ = some (.int .i64 d0) ∧ w'.cell? ⟨w2.heap.size, 2, none⟩ = some (.int .i64 d1) ∧ w'.cell? ⟨w2.heap.size, 3, none⟩ = some (.int .i64 d2) ∧ w'.cell? ⟨w2.heap.size, 4, none⟩ = some (.int .i64 d3) ∧ w'.cell? ⟨w2.heap.size, 5, none⟩ = some (.int .i64 d4) ∧ w'.cell? ⟨w2.heap.size, 6, none⟩ = some (.int .i64 d5) ∧ w'.cell? ⟨w2.heap.size, 7, none⟩ = some (.int .i64 d6) ∧ w'.cell? ⟨w2.heap.size, 8, none⟩ = some (.int .i64 d7) ∧ w'.cell? ⟨w2.heap.size, 9, none⟩ = some (.int .i64 d8) ∧ w'.cell? ⟨w2.heap.size, 10, none⟩ = some (.int .i64 d9) ∧ w'.cell? ⟨w2.heap.size, 11, none⟩ = some (.int .i64 d10) ∧ w'.cell? ⟨w2.heap.size, 12, none⟩ = some (.int .i64 d11) ∧ w'.cell? ⟨w2.heap.size, 13, none⟩ = some (.int .i64 p) ∧ w'.cell? ⟨w2.heap.size, 14, none⟩ = some (.int .i64 q)) (go_keep) ((go_at_call 62; refine (toldR_bad (rootI s [d0, d1, d2, d3, d4, d5, d6, d7, d8, d9, d10, d11] p q) _ m _ 21 _ rfl (H6f.out.below ((Below.refl _ _).drew)) ((HR.out.2.below K6.out.2.2.2).below ((Below.refl _ _).drew))).mono ?_; rintro e w7 ⟨he, b7⟩; have he' : e = .returned (.tuple #[.agg #[.int .i64 0, .int .i64 0, .int .i64 0, .int .i64 0, .int .i64 0, .int .i64 0, .int .i64 0, .int .i64 0, .int .i64 0, .int .i64 0, .int .i64 0, .int .i64 0, .int .i64 0, .int .i64 0, .int .i64 0], .int .i64 21]) := he; clear he; subst he'; have re7 : ∀ o, w7.cell? ⟨w2.heap.size, o, none⟩ = w6.cell? ⟨w2.heap.size, o, none⟩ := fun o => b7.cell (p := ⟨w2.heap.size, o, none⟩) hl6; have re8 : ∀ o, w7.cell? ⟨w.heap.size + 1, o, none⟩ = w6.cell? ⟨w.heap.size + 1, o, none⟩ := fun o => b7.cell (p := ⟨w.heap.size + 1, o, none⟩) hl7; have re9 : ∀ o, w7.cell? ⟨w.heap.size, o, none⟩ = w6.cell? ⟨w.heap.size, o, none⟩ := fun o => b7.cell (p := ⟨w.heap.size, o, none⟩) hl8; have fe9 : ∀ o, w7.frozen? ⟨w.heap.size, o, none⟩ = w6.frozen? ⟨w.heap.size, o, none⟩ := fun o => b7.frozen (p := ⟨w.heap.size, o, none⟩) hl8))
    have kb7 : Blk w7 w.heap.size (cellsI noRoot) 36 := Blk.below (w := w6.drew) K6.out.1 b7 hl8
    have HF := hide (And.intro (Blk.cells noRoot 0 kb7 (Nat.le_refl 15)) (below_cells (b := w.heap.size) (Nat.le_refl _) (noRoot.map (Value.int .i64)) 0 (K6.out.2.2.2.trans ((((Below.refl _ w6).drew).trans b7).mono (by show w.heap.size ≤ w6.heap.size; omega)))))
    clear kb7 b7 re7 re8 re9 fe9 hfz c3 q0 r0 q1 r1 q2 r2 q3 r3 q4 r4 q5 r5 q6 r6 q7 r7 q8 r8 q9 r9 q10 r10 q11 r11 q12 r12 q13 r13 q14 r14
    go_wp2
    refine bodyPost_ret (v := .tuple #[.agg (cellsI noRoot), .int .i64 21]) ?_ rfl ⟨s, [d0, d1, d2, d3, d4, d5, d6, d7, d8, d9, d10, d11], p, q, false, ?_, rfl, HF.out.2⟩
    · exact results_row_tmp rfl _ _ w.heap.size 36 (cellsI noRoot) (0, 0) _ _ rfl rfl HF.out.1 Tryd.underlying36 rfl info15
    · exact hok.out
end Go.Proofs.YtfpfhmnmcjnmaaaDoor

namespace Go.Proofs.YtfpfhmnmcjnmaaaDoor
set_option linter.unusedVariables false
set_option linter.unusedSimpArgs false
open Go.RowKit

/-- The words as the model reads them. -/
def gwords (zs : List Int) (n : Nat) : List Int := (List.range n).map fun i => ((gval ((zs.drop (8 + 4 * i)).take 4) : Nat) : Int)
theorem gwords_succ (zs : List Int) (n : Nat) : gwords zs (n + 1) = gwords zs n ++ [((gval ((zs.drop (8 + 4 * n)).take 4) : Nat) : Int)] := by simp [gwords, List.range_succ]
theorem gwords_len (zs : List Int) (n : Nat) : (gwords zs n).length = n := by simp [gwords]

theorem set_mid (s : Int) (ds : List Int) (k : Nat) (x p q : Int) (hk : k < 12) (hd : ds.length = k) : (cellsI (rootI s (ds ++ List.replicate (12 - k) 0) p q)).setIfInBounds (1 + k) (.int .i64 x) = cellsI (rootI s ((ds ++ [x]) ++ List.replicate (12 - (k + 1)) 0) p q) := by
  rw [cellsI_set]
  congr 1
  subst hd
  unfold rootI
  rw [Nat.add_comm, List.set_cons_succ]
  congr 1
  rw [List.set_append_left _ _ (by simp; omega)]
  congr 1
  rw [List.set_append_right _ _ (Nat.le_refl _), Nat.sub_self, show 12 - ds.length = 12 - (ds.length + 1) + 1 from by omega, List.replicate_succ, List.set_cons_zero]
  simp
theorem get_eq (v v' : Value) (ts : List Int) (w : World) (hv : v = v') (h : Rd .u8 w v' ts) (hl : ts.length ≤ 8) (hbd : ∀ z ∈ ts, 0 ≤ z ∧ z < 256) :
    Calls Tryd.prog 68 #[v] w fun e w' => e = .returned (.int .i64 (gval ts)) ∧ w = w' := by
  subst hv
  exact get_any v ts w h hl hbd

set_option maxRecDepth 100000 in
set_option maxHeartbeats 1000000 in
theorem rootOf_any (v : Value) (zs : List Int) (w : World) (h : Rd .u8 w v zs) (hbd : ∀ z ∈ zs, 0 ≤ z ∧ z < 256) (hz : zs.length = 64) :
    Calls Tryd.prog 57 #[v] w fun e w' => e = .returned (.agg (cellsI (rootI (gval (zs.take 8)) (gwords zs 12) (gval ((zs.drop 56).take 4)) (gval ((zs.drop 60).take 4))))) ∧ Below w.heap.size w w' := by
  obtain ⟨bd, off, cap, rfl, hbw, hcl, hcm, hcell⟩ := h.partsC (by omega)
  unfold maxLen at hcm
  obtain ⟨W, hW⟩ : ∃ W, W = (w.alloc (.cells #[.int .i64 0, .int .i64 0, .int .i64 0, .int .i64 0, .int .i64 0, .int .i64 0, .int .i64 0, .int .i64 0, .int .i64 0, .int .i64 0, .int .i64 0, .int .i64 0, .int .i64 0, .int .i64 0, .int .i64 0] 36)) := ⟨_, rfl⟩
  have hb0 : Below w.heap.size w W := by rw [hW]; exact (Below.refl _ _).alloc (Nat.le_refl _) _
  have k0 : Blk W w.heap.size (cellsI (List.replicate 15 0)) 36 := by rw [hW]; exact Blk.new w _ _
  have RW : ∀ w2, (w2 = W.drew ∨ w2 = (W.alloc (.cells #[.int .i64 0, .int .i64 0, .int .i64 0, .int .i64 0, .int .i64 0, .int .i64 0, .int .i64 0, .int .i64 0, .int .i64 0, .int .i64 0, .int .i64 0, .int .i64 0, .int .i64 0, .int .i64 0, .int .i64 0] 36)).drew) → Rd .u8 w2 (.slice (some ⟨bd, off, none⟩) zs.length cap) zs := by
    rintro w2 (rfl | rfl)
    · exact (h.below hb0).below ((Below.refl _ _).drew)
    · exact (h.below hb0).below (((Below.refl _ _).alloc (Nat.le_refl _) _).drew)
  have HC1 := hide (fun (v : Value) (w2 : World) (hv : v = .slice (some ⟨bd, off, none⟩) 8 cap) (hw : (w2 = W.drew ∨ w2 = (W.alloc (.cells #[.int .i64 0, .int .i64 0, .int .i64 0, .int .i64 0, .int .i64 0, .int .i64 0, .int .i64 0, .int .i64 0, .int .i64 0, .int .i64 0, .int .i64 0, .int .i64 0, .int .i64 0, .int .i64 0, .int .i64 0] 36)).drew)) => get_eq v _ (zs.take 8) w2 hv (by
    have hR : Rd .u8 w2 (.slice (some ⟨bd, off, none⟩) zs.length cap) zs := RW w2 hw
    have := Rd.cut2 0 8 hR (by omega) (by omega)
    simpa using this) (by simp; omega) (fun z hz => hbd z (List.mem_of_mem_take hz)))
  have HC2 := hide (fun (v : Value) (w2 : World) (hv : v = .slice (some ⟨bd, off + 56, none⟩) 4 (cap - 56)) (hw : (w2 = W.drew ∨ w2 = (W.alloc (.cells #[.int .i64 0, .int .i64 0, .int .i64 0, .int .i64 0, .int .i64 0, .int .i64 0, .int .i64 0, .int .i64 0, .int .i64 0, .int .i64 0, .int .i64 0, .int .i64 0, .int .i64 0, .int .i64 0, .int .i64 0] 36)).drew)) => get_eq v _ ((zs.drop 56).take 4) w2 hv (by
    have hR : Rd .u8 w2 (.slice (some ⟨bd, off, none⟩) zs.length cap) zs := RW w2 hw
    exact Rd.cut2 56 4 hR (by omega) (by omega)) (by simp; omega) (fun z hz => hbd z (List.mem_of_mem_drop (List.mem_of_mem_take hz))))
  have HC3 := hide (fun (v : Value) (w2 : World) (hv : v = .slice (some ⟨bd, off + 60, none⟩) 4 (cap - 60)) (hw : (w2 = W.drew ∨ w2 = (W.alloc (.cells #[.int .i64 0, .int .i64 0, .int .i64 0, .int .i64 0, .int .i64 0, .int .i64 0, .int .i64 0, .int .i64 0, .int .i64 0, .int .i64 0, .int .i64 0, .int .i64 0, .int .i64 0, .int .i64 0, .int .i64 0] 36)).drew)) => get_eq v _ ((zs.drop 60).take 4) w2 hv (by
    have hR : Rd .u8 w2 (.slice (some ⟨bd, off, none⟩) zs.length cap) zs := RW w2 hw
    exact Rd.cut2 60 4 hR (by omega) (by omega)) (by simp; omega) (fun z hz => hbd z (List.mem_of_mem_drop (List.mem_of_mem_take hz))))
  generalize gval (zs.take 8) = x1 at HC1 ⊢
  generalize gval ((zs.drop 56).take 4) = x2 at HC2 ⊢
  generalize gval ((zs.drop 60).take 4) = x3 at HC3 ⊢
  have HB := hide hbd
  have HN := hide hz
  have HR := hide h
  have HB0 := hide (And.intro hb0 k0)
  have h8I : (8 : Int) ≤ (cap : Int) := by omega
  have h60I : (60 : Int) ≤ (cap : Int) := by omega
  have h64I : (64 : Int) ≤ (cap : Int) := by omega
  have hn0 : ¬ cap = 0 := by omega
  have hn56 : ¬ cap = 56 := by omega
  have hn60 : ¬ cap = 60 := by omega
  rw [hz]
  clear hbd hcell h hb0 hz RW hcl k0
  have HW := hide hW
  clear hW
  go_enter Tryd.func57, Tryd.ntmps57
  go_wp2
  rw [← HW.out]
  go_region_held3 (fun _ => True) (trivial) (first | (go_at_call 68; refine Calls.mono (HC1.out _ _ ?_ ?_) ?_; (with_reducible rfl); (first | exact .inl rfl | exact .inr rfl); rintro e w1 ⟨rfl, rfl⟩) | (go_at_call 68; refine Calls.mono (HC2.out _ _ ?_ ?_) ?_; (with_reducible rfl); (first | exact .inl rfl | exact .inr rfl); rintro e w1 ⟨rfl, rfl⟩) | (go_at_call 68; refine Calls.mono (HC3.out _ _ ?_ ?_) ?_; (with_reducible rfl); (first | exact .inl rfl | exact .inr rfl); rintro e w1 ⟨rfl, rfl⟩))
  all_goals
    have hWs : W.heap.size = w.heap.size + 1 := by rw [HW.out]; simp
    have hcI : (64 : Int) ≤ (cap : Int) := by omega
    go_wp2
    go_loopw [4, 15] (fun _ i wr => ∃ k : Nat, k ≤ 12 ∧ i = .int .i64 k ∧ w.heap.size + 1 < wr.heap.size ∧ Blk wr w.heap.size (cellsI (List.replicate 15 0)) 36 ∧ Blk wr W.heap.size (cellsI (rootI x1 (gwords zs k ++ List.replicate (12 - k) 0) x2 x3)) 36 ∧ Below w.heap.size w wr) (fun _ i _ => 12 - (intOf i).toNat)
    case atStart =>
      exact ⟨0, by omega, rfl, by show w.heap.size + 1 < (W.alloc _).heap.size; simp; omega, (HB0.out.2.alloc _), Blk.new W #[.int .i64 (x1 : Int), .int .i64 0, .int .i64 0, .int .i64 0, .int .i64 0, .int .i64 0, .int .i64 0, .int .i64 0, .int .i64 0, .int .i64 0, .int .i64 0, .int .i64 0, .int .i64 0, .int .i64 (x2 : Int), .int .i64 (x3 : Int)] 36, (HB0.out.1.alloc (by omega) _).drew⟩
    case round =>
      obtain ⟨k, hk, rfl, hlw, hB2, hB3, hb⟩ := hrel
      have HK := hide (And.intro hB2 (And.intro hB3 hb))
      clear hB2 hB3 hb HC1 HC2 HC3
      by_cases hlt : k < 12
      · have HC := hide (show Rd .u8 wr (.slice (some ⟨bd, off + (8 + 4 * k), none⟩) 4 (cap - (8 + 4 * k))) ((zs.drop (8 + 4 * k)).take 4) from (Rd.cut2 (8 + 4 * k) 4 HR.out (by omega) (by rw [HN.out]; omega)).below HK.out.2.2)
        go_wp2_with (go_at_call 68; fail)
        rw [show 12 + 4 * k - (8 + 4 * k) = 4 from by omega]
        refine (get_any _ ((zs.drop (8 + 4 * k)).take 4) _ HC.out (by simp; omega) (fun z hz => HB.out z (List.mem_of_mem_drop (List.mem_of_mem_take hz)))).mono ?_
        rintro e wq ⟨rfl, rfl⟩
        have HS := hide (gwords_succ zs k)
        generalize gval ((zs.drop (8 + 4 * k)).take 4) = y at HS ⊢
        obtain ⟨old, c4⟩ : ∃ u, wr.cell? ⟨W.heap.size, 1 + k, none⟩ = some u := by
          rw [HK.out.2.1.cell (1 + k)]
          exact ⟨_, Array.getElem?_eq_getElem (by rw [cellsI_size, rootI_len _ _ _ _ (by simp [gwords_len]; omega)]; omega)⟩
        have f4 := HK.out.2.1.frozen (1 + k)
        have HW2 := hide (show Blk (wr.setCell ⟨W.heap.size, 1 + k, none⟩ (.int .i64 (y : Int))) w.heap.size (cellsI (List.replicate 15 0)) 36 ∧ Blk (wr.setCell ⟨W.heap.size, 1 + k, none⟩ (.int .i64 (y : Int))) W.heap.size (cellsI (rootI x1 (gwords zs (k + 1) ++ List.replicate (12 - (k + 1)) 0) x2 x3)) 36 ∧ Below w.heap.size w (wr.setCell ⟨W.heap.size, 1 + k, none⟩ (.int .i64 (y : Int))) from by
          refine ⟨HK.out.1.other _ _ (by show w.heap.size ≠ W.heap.size; omega), ?_, HK.out.2.2.setCell (p := ⟨W.heap.size, 1 + k, none⟩) (by show _ ≤ W.heap.size; omega) _⟩
          have h3 := HK.out.2.1.set (1 + k) (.int .i64 (y : Int))
          rw [set_mid x1 (gwords zs k) k y x2 x3 hlt (gwords_len zs k), ← HS.out] at h3
          exact h3)
        clear HK HC hWs
        go_wp2
        go_roundw
        case rel => exact ⟨k + 1, by omega, by go_num, by simp; omega, HW2.out.1, HW2.out.2.1, HW2.out.2.2⟩
        case measure => simp [intOf]; omega
      · have e12 : k = 12 := by omega
        subst e12
        have H5 := hide (show Blk wr w.heap.size (cellsI (List.replicate 15 0)) 36 ∧ Blk wr W.heap.size (cellsI (rootI x1 (gwords zs 12) x2 x3)) 36 ∧ Below w.heap.size w wr from by
          have h3 := HK.out.2.1
          rw [Nat.sub_self, List.replicate_zero, List.append_nil] at h3
          exact ⟨HK.out.1, h3, HK.out.2.2⟩)
        have HZ := hide (show (cellsI (rootI x1 (gwords zs 12) x2 x3)).size = 15 from by rw [cellsI_size]; exact rootI_len _ _ _ _ (gwords_len zs 12))
        clear HK
        go_wp2_with (first | (refine wpList_load_row rfl 36 _ rfl W.heap.size rfl 36 (cellsI (rootI x1 (gwords zs 12) x2 x3)) (0, 0) _ H5.out.2.1 Tryd.underlying36 rfl (by rw [HZ.out]; exact info15) ?_) | (refine wpList_store_row rfl 36 _ _ rfl w.heap.size (cellsI (rootI x1 (gwords zs 12) x2 x3)) rfl rfl 36 _ H5.out.1 (by rw [HZ.out]; exact info15) (by rw [HZ.out]; rfl) (cellsI_one _) ?_))
        refine bodyPost_ret (v := .agg (cellsI (rootI x1 (gwords zs 12) x2 x3))) ?_ rfl ⟨rfl, below_setRow H5.out.2.2 (Nat.le_refl _) _⟩
        exact results_cell_row rfl _ _ w.heap.size 36 (cellsI (rootI x1 (gwords zs 12) x2 x3)) (0, 0) _ rfl (H5.out.1.row _) Tryd.underlying36 rfl (by rw [HZ.out]; exact info15)
end Go.Proofs.YtfpfhmnmcjnmaaaDoor

namespace Go.Proofs.YtfpfhmnmcjnmaaaDoor
set_option linter.unusedVariables false
set_option linter.unusedSimpArgs false
open Go.RowKit

theorem le_unle : ∀ (ts : List Int), (∀ z ∈ ts, 0 ≤ z ∧ z < 256) → le ts.length (unle ts) = ts
  | [], _ => rfl
  | z :: ts, h => by
    have h1 := h z (by simp)
    have ih := le_unle ts (fun y hy => h y (by simp [hy]))
    rw [List.length_cons, le, unle]
    obtain ⟨n, rfl⟩ := Int.eq_ofNat_of_zero_le h1.1
    have hn : n < 256 := by omega
    rw [Int.toNat_natCast, show (n + 256 * unle ts) % 256 = n from by omega, show (n + 256 * unle ts) / 256 = unle ts from by omega, ih]
theorem bytes_cut {zs : List Int} (h : ∀ z ∈ zs, 0 ≤ z ∧ z < 256) (lo n : Nat) : ∀ z ∈ (zs.drop lo).take n, 0 ≤ z ∧ z < 256 := fun z hz => h z (List.mem_of_mem_drop (List.mem_of_mem_take hz))
theorem bytesW_words (zs : List Int) (p : Nat) (h : ∀ z ∈ zs, 0 ≤ z ∧ z < 256) : ∀ n, p + 4 * n ≤ zs.length → bytesW (wordsFrom zs p n) = (zs.drop p).take (4 * n)
  | 0, _ => by simp [wordsFrom, bytesW]
  | n + 1, hl => by
    have ih := bytesW_words zs p h n (by omega)
    rw [wordsFrom_succ, bytesW_append, ih]
    have hlen : ((zs.drop (p + 4 * n)).take 4).length = 4 := by simp; omega
    have h1 : bytesW [((unle ((zs.drop (p + 4 * n)).take 4) : Nat) : Int)] = (zs.drop (p + 4 * n)).take 4 := by
      have h2 := le_unle _ (bytes_cut h (p + 4 * n) 4)
      rw [hlen] at h2
      unfold bytesW
      simp only [List.flatMap_cons, List.flatMap_nil, List.append_nil, Int.toNat_natCast]
      exact h2
    rw [h1, show 4 * (n + 1) = 4 * n + 4 from by omega, List.take_add, List.drop_drop]
theorem gval4 (zs : List Int) (h : ∀ z ∈ zs, 0 ≤ z ∧ z < 256) (lo : Nat) : gval ((zs.drop lo).take 4) = unle ((zs.drop lo).take 4) := by
  apply gval_small
  have h1 := unle_lt _ (bytes_cut h lo 4)
  have h2 : ((zs.drop lo).take 4).length ≤ 4 := by simp; omega
  have h3 : 256 ^ ((zs.drop lo).take 4).length ≤ 256 ^ 4 := Nat.pow_le_pow_right (by decide) h2
  omega
theorem gwords_words (zs : List Int) (h : ∀ z ∈ zs, 0 ≤ z ∧ z < 256) (n : Nat) : gwords zs n = wordsFrom zs 8 n := by
  unfold gwords wordsFrom
  congr 1
  funext i
  rw [gval4 zs h]
theorem rightR_size {s : Int} {ds : List Int} {p q : Int} (h : s < 0 ∨ 262144 < s) : rightR s ds p q = false := by
  unfold rightR
  rcases h with h | h
  · rw [decide_eq_false (show ¬ 0 ≤ s by omega)]; rfl
  · rw [decide_eq_false (show ¬ s ≤ 262144 by omega), Bool.and_false]; rfl

/-- What the program reads is what the model reads. -/
theorem root_agree (zs : List Int) (s : Int) (ds : List Int) (p q : Int) (h : ∀ z ∈ zs, 0 ≤ z ∧ z < 256) (hz : zs.length = 64) (hd : ds.length = 12) (hr : RootAt zs 0 s ds p q) :
    ds = gwords zs 12 ∧ p = ((gval ((zs.drop 56).take 4) : Nat) : Int) ∧ q = ((gval ((zs.drop 60).take 4) : Nat) : Int) ∧ (rightR s ds p q = rightR ((gval (zs.take 8) : Nat) : Int) ds p q) ∧
      (rightR s ds p q = true → s = ((gval (zs.take 8) : Nat) : Int) ∧ bytesR s ds p q = zs) := by
  obtain ⟨h1, h2⟩ := hr
  rw [Nat.zero_add] at h2
  rw [List.drop_zero] at h1
  have h3 : wordsFrom zs 8 14 = gwords zs 12 ++ [((gval ((zs.drop 56).take 4) : Nat) : Int), ((gval ((zs.drop 60).take 4) : Nat) : Int)] := by
    rw [wordsFrom_succ, wordsFrom_succ, gwords_words zs h, gval4 zs h, gval4 zs h]
    simp
  have h2' := h2
  rw [h3] at h2'
  obtain ⟨e1, e2⟩ := List.append_inj h2' (by rw [hd, gwords_len])
  simp at e2
  have hb8 : ∀ z ∈ zs.take 8, 0 ≤ z ∧ z < 256 := fun z hz => h z (List.mem_of_mem_take hz)
  have hX := unle_lt (zs.take 8) hb8
  have hl8 : (zs.take 8).length = 8 := by simp; omega
  rw [hl8] at hX
  have hle := le_unle (zs.take 8) hb8
  rw [hl8] at hle
  have hw := bytesW_words zs 8 h 14 (by omega)
  have hbig : (256 : Nat) ^ 8 = 18446744073709551616 := by decide
  rw [hbig] at hX
  refine ⟨e1, e2.1, e2.2, ?_, ?_⟩
  · by_cases hs : unle (zs.take 8) < 18014398509481984
    · rw [gval_small _ hs, h1]
      congr 1
      unfold wrap64
      omega
    · rw [rightR_size (s := s), rightR_size]
      · right
        unfold gval
        rw [if_pos (by omega)]
        decide
      · rw [h1]
        unfold wrap64
        omega
  · intro hR
    have hs : unle (zs.take 8) < 18014398509481984 := by
      refine Classical.byContradiction fun hn => ?_
      rw [rightR_size (s := s)] at hR
      · cases hR
      · rw [h1]
        unfold wrap64
        omega
    have hsx : s = ((unle (zs.take 8) : Nat) : Int) := by
      rw [h1]
      unfold wrap64
      omega
    refine ⟨by rw [gval_small _ hs, hsx], ?_⟩
    unfold bytesR
    rw [hsx, Int.toNat_natCast, hle, h2, hw]
    rw [List.take_of_length_le (show (zs.drop 8).length ≤ 4 * 14 by simp; omega)]
    exact List.take_append_drop 8 zs
end Go.Proofs.YtfpfhmnmcjnmaaaDoor

namespace Go.Proofs.YtfpfhmnmcjnmaaaDoor
set_option linter.unusedVariables false
set_option linter.unusedSimpArgs false
open Go.RowKit

theorem spec_bytes (zs : List Int) (h : ∀ z ∈ zs, 0 ≤ z ∧ z < 256) (hz : zs.length = 64) (hR : rightR ((gval (zs.take 8) : Nat) : Int) (gwords zs 12) ((gval ((zs.drop 56).take 4) : Nat) : Int) ((gval ((zs.drop 60).take 4) : Nat) : Int) = true) :
    bytesR ((gval (zs.take 8) : Nat) : Int) (gwords zs 12) ((gval ((zs.drop 56).take 4) : Nat) : Int) ((gval ((zs.drop 60).take 4) : Nat) : Int) = zs := by
  have h3 : gwords zs 12 ++ [((gval ((zs.drop 56).take 4) : Nat) : Int), ((gval ((zs.drop 60).take 4) : Nat) : Int)] = wordsFrom zs 8 14 := by
    rw [wordsFrom_succ, wordsFrom_succ, gwords_words zs h, gval4 zs h, gval4 zs h]
    simp
  obtain ⟨_, _, _, h4, h5⟩ := root_agree zs _ _ _ _ h hz (gwords_len zs 12) (show RootAt zs 0 _ (gwords zs 12) _ _ from ⟨rfl, by rw [h3]⟩)
  rw [h4] at h5
  obtain ⟨h6, h7⟩ := h5 hR
  rw [← h6]
  exact h7

set_option maxRecDepth 100000 in
set_option maxHeartbeats 1000000 in
theorem specDR_bad (v : Value) (zs : List Int) (w : World) (h : Rd .u8 w v zs) (hz : zs.length ≠ 64) :
    Calls Tryd.prog 23 #[v] w fun e w' => e = .returned (.tuple #[.agg (cellsI noRoot), .int .i64 21]) ∧ Below w.heap.size w w' := by
  have HB := hide (show ∀ C, Below w.heap.size w (w.alloc C) from fun C => (Below.refl _ _).alloc (Nat.le_refl _) _)
  obtain ⟨a, cap, rfl, hm, _⟩ := h
  unfold maxLen at hm
  have hn : ¬ ((zs.length : Int) = 64) := by omega
  go_enter Tryd.func23, Tryd.ntmps23
  go_wp2
  refine bodyPost_ret (v := .tuple #[.agg (cellsI noRoot), .int .i64 21]) ?_ rfl ⟨rfl, HB.out _⟩
  exact results_row_tmp rfl _ _ w.heap.size 36 (cellsI noRoot) (0, 0) _ _ rfl rfl (Blk.new w _ _) Tryd.underlying36 rfl info15

set_option maxRecDepth 100000 in
set_option maxHeartbeats 1000000 in
theorem specDR_64 (v : Value) (zs : List Int) (w : World) (h : Rd .u8 w v zs) (hbd : ∀ z ∈ zs, 0 ≤ z ∧ z < 256) (hz : zs.length = 64) (x1 : Int) (ds : List Int) (x2 x3 : Int)
    (e1 : x1 = ((gval (zs.take 8) : Nat) : Int)) (e2 : ds = gwords zs 12) (e3 : x2 = ((gval ((zs.drop 56).take 4) : Nat) : Int)) (e4 : x3 = ((gval ((zs.drop 60).take 4) : Nat) : Int)) (hd : ds.length = 12) (ok : Bool) (hok : rightR x1 ds x2 x3 = ok) :
    Calls Tryd.prog 23 #[v] w fun e w' => e = .returned (.tuple #[.agg (cellsI (if ok = true then rootI x1 ds x2 x3 else noRoot)), .int .i64 (if ok = true then 0 else 21)]) ∧ Below w.heap.size w w' := by
  have HR := hide h
  have HBD := hide hbd
  have HS := hide (And.intro e1 (And.intro e2 (And.intro e3 e4)))
  have HZ := hide (show (cellsI (rootI x1 ds x2 x3)).size = 15 from by rw [cellsI_size]; exact rootI_len _ _ _ _ hd)
  have HOK := hide hok
  have HD := hide hd
  have HZ0 := hide hz
  obtain ⟨bd, off, cap, rfl, hbw, hcl, hcm, hcell⟩ := h.partsC (by omega)
  have HC := hide hcell
  clear h hbd e1 e2 e3 e4 hok hd hcell hcl hcm
  rw [hz]
  clear hz
  have HB0 := hide (show ∀ C, Below w.heap.size w (w.alloc C) from fun C => (Below.refl _ _).alloc (Nat.le_refl _) _)
  go_enter Tryd.func23, Tryd.ntmps23
  go_wp2_with fail
  have hC := rootOf_any _ zs _ (HR.out.below (HB0.out (.cells #[.int .i64 0, .int .i64 0, .int .i64 0, .int .i64 0, .int .i64 0, .int .i64 0, .int .i64 0, .int .i64 0, .int .i64 0, .int .i64 0, .int .i64 0, .int .i64 0, .int .i64 0, .int .i64 0, .int .i64 0] 36))) HBD.out HZ0.out
  rw [HZ0.out, ← HS.out.1, ← HS.out.2.1, ← HS.out.2.2.1, ← HS.out.2.2.2] at hC
  refine hC.mono ?_
  rintro e w1 ⟨rfl, b1⟩
  have K0 := hide ((Blk.new w (cellsI noRoot) 36).below b1 (by simp))
  have B1 := hide ((HB0.out (.cells (cellsI noRoot) 36)).trans (b1.mono (HB0.out _).size))
  clear b1 hC
  have hlt1 : w.heap.size < w1.heap.size := K0.out.lt
  have K1 := hide (show Blk ((w1.alloc (.cells #[.int .i64 0, .int .i64 0, .int .i64 0, .int .i64 0, .int .i64 0, .int .i64 0, .int .i64 0, .int .i64 0, .int .i64 0, .int .i64 0, .int .i64 0, .int .i64 0, .int .i64 0, .int .i64 0, .int .i64 0] 36)).setRow w1.heap.size (cellsI (rootI x1 ds x2 x3))) w1.heap.size (cellsI (rootI x1 ds x2 x3)) 36 ∧ Blk ((w1.alloc (.cells #[.int .i64 0, .int .i64 0, .int .i64 0, .int .i64 0, .int .i64 0, .int .i64 0, .int .i64 0, .int .i64 0, .int .i64 0, .int .i64 0, .int .i64 0, .int .i64 0, .int .i64 0, .int .i64 0, .int .i64 0] 36)).setRow w1.heap.size (cellsI (rootI x1 ds x2 x3))) w.heap.size (cellsI noRoot) 36 ∧ Below w.heap.size w ((w1.alloc (.cells #[.int .i64 0, .int .i64 0, .int .i64 0, .int .i64 0, .int .i64 0, .int .i64 0, .int .i64 0, .int .i64 0, .int .i64 0, .int .i64 0, .int .i64 0, .int .i64 0, .int .i64 0, .int .i64 0, .int .i64 0] 36)).setRow w1.heap.size (cellsI (rootI x1 ds x2 x3))) from
    ⟨(Blk.new w1 #[.int .i64 0, .int .i64 0, .int .i64 0, .int .i64 0, .int .i64 0, .int .i64 0, .int .i64 0, .int .i64 0, .int .i64 0, .int .i64 0, .int .i64 0, .int .i64 0, .int .i64 0, .int .i64 0, .int .i64 0] 36).row _, (setRow_block _ _ _ _ (by omega)).trans (K0.out.alloc _), below_setRow (B1.out.alloc (by omega) _) (by omega) _⟩)
  go_wp2_with (first | (refine wpList_store_row rfl 36 _ _ rfl w1.heap.size (cellsI (rootI x1 ds x2 x3)) rfl rfl 36 _ (Blk.new w1 #[.int .i64 0, .int .i64 0, .int .i64 0, .int .i64 0, .int .i64 0, .int .i64 0, .int .i64 0, .int .i64 0, .int .i64 0, .int .i64 0, .int .i64 0, .int .i64 0, .int .i64 0, .int .i64 0, .int .i64 0] 36) (by rw [HZ.out]; exact info15) (by rw [HZ.out]; rfl) (cellsI_one _) ?_) | (refine wpList_load_row rfl 36 _ rfl w1.heap.size rfl 36 (cellsI (rootI x1 ds x2 x3)) (0, 0) _ K1.out.1 Tryd.underlying36 rfl (by rw [HZ.out]; exact info15) ?_) | (go_at_call 20; fail))
  generalize hW3 : ((w1.alloc (.cells #[.int .i64 0, .int .i64 0, .int .i64 0, .int .i64 0, .int .i64 0, .int .i64 0, .int .i64 0, .int .i64 0, .int .i64 0, .int .i64 0, .int .i64 0, .int .i64 0, .int .i64 0, .int .i64 0, .int .i64 0] 36)).setRow w1.heap.size (cellsI (rootI x1 ds x2 x3))) = w2 at K1 ⊢
  clear hW3
  refine (specR_any x1 ds x2 x3 _ HD.out).mono ?_
  rintro e w3 ⟨v3, rfl, o3, b3⟩
  have hs2 := K1.out.1.lt
  have K3 := hide (And.intro (K1.out.1.below b3 hs2) (And.intro (K1.out.2.1.below b3 (by omega)) (K1.out.2.2.trans (b3.mono (by omega)))))
  have O3 := hide o3
  clear b3 o3
  cases ok with
  | false =>
    have hc : codeR x1 ds x2 x3 = 7 := by unfold codeR; rw [HOK.out]; rfl
    rw [hc]
    go_wp2_with (refine wpList_store_row rfl 36 _ _ rfl w.heap.size #[.int .i64 0, .int .i64 0, .int .i64 0, .int .i64 0, .int .i64 0, .int .i64 0, .int .i64 0, .int .i64 0, .int .i64 0, .int .i64 0, .int .i64 0, .int .i64 0, .int .i64 0, .int .i64 0, .int .i64 0] rfl rfl 36 _ K3.out.2.1 info15 rfl (cellsI_one noRoot) ?_)
    refine bodyPost_ret (v := .tuple #[.agg (cellsI noRoot), .int .i64 21]) ?_ rfl ⟨rfl, below_setRow K3.out.2.2 (Nat.le_refl _) _⟩
    exact results_row_tmp rfl _ _ w.heap.size 36 (cellsI noRoot) (0, 0) _ _ rfl rfl (K3.out.2.1.row _) Tryd.underlying36 rfl info15
  | true =>
    have hc : codeR x1 ds x2 x3 = 0 := by unfold codeR; rw [HOK.out]; rfl
    have he : encR x1 ds x2 x3 = zs := by
      unfold encR
      rw [if_pos HOK.out]
      have h1 := HOK.out
      have h2 := HS.out
      obtain ⟨e1, e2, e3, e4⟩ := h2
      rw [e1, e2, e3, e4] at h1 ⊢
      exact spec_bytes zs HBD.out HZ0.out h1
    rw [hc]
    have o3 := O3.out
    rw [he] at o3
    obtain ⟨g3, of3, cp3, rfl, hg3, _, _, hcell3⟩ := (Rd.own o3).partsC (by rw [HZ0.out]; omega)
    have hcb : ∀ i, i < 64 → w3.cell? ⟨bd, off + i, none⟩ = some (.int .u8 (zs.getD i 0)) := fun i hi => (K3.out.2.2.cell (p := ⟨bd, off + i, none⟩) hbw).trans (HC.out i (by rw [HZ0.out]; exact hi))
    have v1 := run_convert_bytes_arg (P := Tryd.prog) w3 23 5 Tryd.underlying23 Tryd.underlying5 bd off 64 cap zs HZ0.out hcb 9 Tryd.underlying9
    have v2 := run_convert_bytes_arg (P := Tryd.prog) w3 23 5 Tryd.underlying23 Tryd.underlying5 g3 of3 zs.length cp3 zs rfl hcell3 9 Tryd.underlying9
    generalize strOfNums zs = S at v1 v2
    clear hcb hcell3 o3 he hc
    go_wp2_with (first | (refine wpList_load_row rfl 36 _ rfl w1.heap.size rfl 36 (cellsI (rootI x1 ds x2 x3)) (0, 0) _ K3.out.1 Tryd.underlying36 rfl (by rw [HZ.out]; exact info15) ?_) | (refine wpList_store_row rfl 36 _ _ rfl w.heap.size (cellsI (rootI x1 ds x2 x3)) rfl rfl 36 _ K3.out.2.1 (by rw [HZ.out]; exact info15) (by rw [HZ.out]; rfl) (cellsI_one _) ?_))
    refine bodyPost_ret (v := .tuple #[.agg (cellsI (rootI x1 ds x2 x3)), .int .i64 0]) ?_ rfl ⟨rfl, below_setRow K3.out.2.2 (Nat.le_refl _) _⟩
    exact results_row_tmp rfl _ _ w.heap.size 36 (cellsI (rootI x1 ds x2 x3)) (0, 0) _ _ rfl rfl (K3.out.2.1.row _) Tryd.underlying36 rfl (by rw [HZ.out]; exact info15)

/-- What DecodeRoot tells of bytes. -/
def okDR (zs : List Int) : Bool := decide (zs.length = 64) && rightR ((gval (zs.take 8) : Nat) : Int) (gwords zs 12) ((gval ((zs.drop 56).take 4) : Nat) : Int) ((gval ((zs.drop 60).take 4) : Nat) : Int)
def decR (zs : List Int) : List Int := if okDR zs = true then rootI ((gval (zs.take 8) : Nat) : Int) (gwords zs 12) ((gval ((zs.drop 56).take 4) : Nat) : Int) ((gval ((zs.drop 60).take 4) : Nat) : Int) else noRoot
def codeDR (zs : List Int) : Int := if okDR zs = true then 0 else 21
theorem decR_root (zs : List Int) : ∃ s ds p q, ds.length = 12 ∧ decR zs = rootI s ds p q := by
  unfold decR
  split
  · exact ⟨_, _, _, _, gwords_len zs 12, rfl⟩
  · exact ⟨0, List.replicate 12 0, 0, 0, rfl, rfl⟩
theorem specDR_any (v : Value) (zs : List Int) (w : World) (h : Rd .u8 w v zs) (hbd : ∀ z ∈ zs, 0 ≤ z ∧ z < 256) :
    Calls Tryd.prog 23 #[v] w fun e w' => e = .returned (.tuple #[.agg (cellsI (decR zs)), .int .i64 (codeDR zs)]) ∧ Below w.heap.size w w' := by
  by_cases hz : zs.length = 64
  · have := specDR_64 v zs w h hbd hz _ _ _ _ rfl rfl rfl rfl (gwords_len zs 12) (okDR zs) (by unfold okDR; rw [decide_eq_true hz, Bool.true_and])
    exact this
  · have := specDR_bad v zs w h hz
    have e : okDR zs = false := by unfold okDR; rw [decide_eq_false hz, Bool.false_and]
    unfold decR codeDR
    rw [e]
    exact this
theorem implDR_same (v : Value) (zs : List Int) (w : World) (h : Rd .u8 w v zs) (hbd : ∀ z ∈ zs, 0 ≤ z ∧ z < 256) (hz : zs.length ≤ 140737488355328) (hg : ErrT w) :
    Calls Tryd.prog 25 #[v] w fun e w' => e = .returned (.tuple #[.agg (cellsI (decR zs)), .int .i64 (codeDR zs)]) ∧ Below w.heap.size w w' := by
  refine (implDR_any v zs w h hbd hz hg).mono ?_
  rintro e w' ⟨s, ds, p, q, ok, ⟨hd, h1, h2⟩, rfl, hb⟩
  refine ⟨?_, hb⟩
  by_cases h64 : zs.length = 64
  · obtain ⟨hr, hok⟩ := h2 h64
    obtain ⟨e1, e2, e3, e4, e5⟩ := root_agree zs s ds p q hbd h64 hd hr
    have e6 : okDR zs = ok := by
      unfold okDR
      rw [decide_eq_true h64, Bool.true_and, hok, e4, e1, e2, e3]
    unfold decR codeDR
    rw [e6]
    cases ok with
    | false => rfl
    | true =>
      have e7 := (e5 hok.symm).1
      rw [if_pos rfl, if_pos rfl, ← e1, ← e2, ← e3, ← e7]
      rfl
  · have e : okDR zs = false := by unfold okDR; rw [decide_eq_false h64, Bool.false_and]
    have e8 : ok = false := by
      cases ok with
      | false => rfl
      | true => exact absurd (h1 rfl).2.2 h64
    unfold decR codeDR
    rw [e, e8]
    rfl
end Go.Proofs.YtfpfhmnmcjnmaaaDoor
