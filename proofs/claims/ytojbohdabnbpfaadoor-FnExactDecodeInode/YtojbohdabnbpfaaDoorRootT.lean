/- The program's DecodeRoot. -/
import Derived.Test.YtojbohdabnbpfaaDoorRootS

namespace Go.Proofs.YtojbohdabnbpfaaDoor
set_option linter.unusedVariables false
set_option linter.unusedSimpArgs false
open Go.RowKit

/-- What DecodeRoot's regions leave: a root that was read, and whether it is told. -/
def ReadR (zs : List Int) (s : Int) (ds : List Int) (p q : Int) (ok : Bool) : Prop :=
  ds.length = 12 ∧ (ok = true → RootAt zs 0 s ds p q ∧ rightR s ds p q = true ∧ zs.length = 64) ∧ (zs.length = 64 → RootAt zs 0 s ds p q ∧ ok = rightR s ds p q)

theorem readR_of (zs : List Int) (s : Int) (ds : List Int) (p q : Int) (ok2 : Bool) (p2 : Nat) (ha : Adv true zs 0 64 ok2 p2) (hv : ok2 = true → RootAt zs 0 s ds p q) (hd : ds.length = 12) :
    ReadR zs s ds p q (ok2 && ((((zs.drop p2).take (64 - p2)).all fun z => decide (z = 0)) && decide (zs.length = 64)) && rightR s ds p q) := by
  refine ⟨hd, fun h => ?_, fun h => ?_⟩
  · simp only [Bool.and_eq_true, decide_eq_true_eq] at h
    exact ⟨hv h.1.1, h.2, h.1.2.2⟩
  · rcases ha with ⟨h1, _, _, h4⟩ | ⟨_, h2, _⟩
    · subst h4 h1
      refine ⟨hv rfl, ?_⟩
      simp [h]
    · exact absurd ⟨rfl, by omega⟩ h2

set_option maxRecDepth 100000 in
set_option maxHeartbeats 1000000 in
theorem implDR_any (v : Value) (zs : List Int) (w : World) (h : Rd .u8 w v zs) (hbd : ∀ z ∈ zs, 0 ≤ z ∧ z < 256) (hz : zs.length ≤ 140737488355328) (hg : ErrT w) :
    Calls Tryd.prog 25 #[v] w fun e w' => ∃ s ds p q ok, ReadR zs s ds p q ok ∧ e = .returned (.tuple #[.agg (cellsI (if ok = true then rootI s ds p q else noRoot)), .int .i64 (if ok = true then 0 else 21)]) ∧ Below w.heap.size w w' := by
  have HB := hide hbd
  have HR := hide (And.intro h hg)
  have hb0 : ∀ C, Below w.heap.size w (w.alloc C) := fun C => (Below.refl _ _).alloc (Nat.le_refl _) _
  have HB0 := hide hb0
  clear hbd hg hb0
  obtain ⟨a, cap, rfl, _⟩ := h
  go_enter Tryd.func25, Tryd.ntmps25
  go_wp2_with fail
  refine (newReader_any _ zs _ (HR.out.1.below (HB0.out _))).mono ?_
  rintro e w1 ⟨rfl, r1, b1⟩
  have k1 : Blk w1 w.heap.size #[.int .i64 0, .int .i64 0, .int .i64 0, .int .i64 0, .int .i64 0, .int .i64 0, .int .i64 0, .int .i64 0, .int .i64 0, .int .i64 0, .int .i64 0, .int .i64 0, .int .i64 0, .int .i64 0, .int .i64 0] 36 := (Blk.new w #[.int .i64 0, .int .i64 0, .int .i64 0, .int .i64 0, .int .i64 0, .int .i64 0, .int .i64 0, .int .i64 0, .int .i64 0, .int .i64 0, .int .i64 0, .int .i64 0, .int .i64 0, .int .i64 0, .int .i64 0] 36).below b1 (by simp)
  have H1 := hide (And.intro r1 (And.intro k1 ((HB0.out (.cells #[.int .i64 0, .int .i64 0, .int .i64 0, .int .i64 0, .int .i64 0, .int .i64 0, .int .i64 0, .int .i64 0, .int .i64 0, .int .i64 0, .int .i64 0, .int .i64 0, .int .i64 0, .int .i64 0, .int .i64 0] 36)).trans (b1.mono (by simp)))))
  clear r1 b1 k1
  go_wp2_with fail
  have H1' := H1.out.1
  rw [World.size_alloc] at H1'
  refine (readRoot_any _ _ _ _ true _ zs 0 H1' hz HB.out).mono ?_
  rintro e w2 ⟨s, ds, p, q, ok2, p2, rfl, hdl, r2, a2, v2, g2⟩
  obtain ⟨d0, d1, d2, d3, d4, d5, d6, d7, d8, d9, d10, d11, rfl⟩ := list12 hdl
  have hs2 := g2.size
  have hlt1 := H1'.ck.lt
  have k2 : Blk w2 w.heap.size #[.int .i64 0, .int .i64 0, .int .i64 0, .int .i64 0, .int .i64 0, .int .i64 0, .int .i64 0, .int .i64 0, .int .i64 0, .int .i64 0, .int .i64 0, .int .i64 0, .int .i64 0, .int .i64 0, .int .i64 0] 36 := (g2.block _ (by omega) (by simp)).trans H1.out.2.1
  have hb12 : w.heap.size + 1 < w2.heap.size := r2.ck.lt
  have HZ := hide (show (cellsI (rootI s [d0, d1, d2, d3, d4, d5, d6, d7, d8, d9, d10, d11] p q)).size = 15 from rfl)
  have H2 := hide (show Rdr _ ((w2.alloc (.cells #[.int .i64 0, .int .i64 0, .int .i64 0, .int .i64 0, .int .i64 0, .int .i64 0, .int .i64 0, .int .i64 0, .int .i64 0, .int .i64 0, .int .i64 0, .int .i64 0, .int .i64 0, .int .i64 0, .int .i64 0] 36)).setRow w2.heap.size (cellsI (rootI s [d0, d1, d2, d3, d4, d5, d6, d7, d8, d9, d10, d11] p q))) (w.heap.size + 1) _ ok2 _ zs p2 ∧ Blk ((w2.alloc (.cells #[.int .i64 0, .int .i64 0, .int .i64 0, .int .i64 0, .int .i64 0, .int .i64 0, .int .i64 0, .int .i64 0, .int .i64 0, .int .i64 0, .int .i64 0, .int .i64 0, .int .i64 0, .int .i64 0, .int .i64 0] 36)).setRow w2.heap.size (cellsI (rootI s [d0, d1, d2, d3, d4, d5, d6, d7, d8, d9, d10, d11] p q))) w.heap.size #[.int .i64 0, .int .i64 0, .int .i64 0, .int .i64 0, .int .i64 0, .int .i64 0, .int .i64 0, .int .i64 0, .int .i64 0, .int .i64 0, .int .i64 0, .int .i64 0, .int .i64 0, .int .i64 0, .int .i64 0] 36 ∧ Below w.heap.size w ((w2.alloc (.cells #[.int .i64 0, .int .i64 0, .int .i64 0, .int .i64 0, .int .i64 0, .int .i64 0, .int .i64 0, .int .i64 0, .int .i64 0, .int .i64 0, .int .i64 0, .int .i64 0, .int .i64 0, .int .i64 0, .int .i64 0] 36)).setRow w2.heap.size (cellsI (rootI s [d0, d1, d2, d3, d4, d5, d6, d7, d8, d9, d10, d11] p q))) ∧ Blk ((w2.alloc (.cells #[.int .i64 0, .int .i64 0, .int .i64 0, .int .i64 0, .int .i64 0, .int .i64 0, .int .i64 0, .int .i64 0, .int .i64 0, .int .i64 0, .int .i64 0, .int .i64 0, .int .i64 0, .int .i64 0, .int .i64 0] 36)).setRow w2.heap.size (cellsI (rootI s [d0, d1, d2, d3, d4, d5, d6, d7, d8, d9, d10, d11] p q))) w2.heap.size (cellsI (rootI s [d0, d1, d2, d3, d4, d5, d6, d7, d8, d9, d10, d11] p q)) 36 from
    ⟨(r2.alloc _).row _ hb12 (Blk.new w2 (cellsI (List.replicate 15 0)) 36) (by decide), (setRow_block _ _ _ _ (by omega)).trans (k2.alloc _), below_setRow ((H1.out.2.2.grown g2 (by omega) (fun k e => by cases e; omega)).alloc (by omega) _) (by omega) _, (Blk.new w2 #[.int .i64 0, .int .i64 0, .int .i64 0, .int .i64 0, .int .i64 0, .int .i64 0, .int .i64 0, .int .i64 0, .int .i64 0, .int .i64 0, .int .i64 0, .int .i64 0, .int .i64 0, .int .i64 0, .int .i64 0] 36).row _⟩)
  have HA := hide (And.intro a2 (And.intro v2 hdl))
  have hp2 : p2 ≤ 64 := by rcases a2 with ⟨_, _, _, h⟩ | ⟨_, _, h⟩ <;> omega
  clear r2 k2 g2 a2 v2 hdl H1' H1
  go_wp2_with (first | (refine wpList_store_row rfl 36 _ _ rfl w2.heap.size (cellsI (rootI s [d0, d1, d2, d3, d4, d5, d6, d7, d8, d9, d10, d11] p q)) rfl rfl 36 _ (Blk.new w2 #[.int .i64 0, .int .i64 0, .int .i64 0, .int .i64 0, .int .i64 0, .int .i64 0, .int .i64 0, .int .i64 0, .int .i64 0, .int .i64 0, .int .i64 0, .int .i64 0, .int .i64 0, .int .i64 0, .int .i64 0] 36) info15 rfl (cellsI_one _) ?_) | (go_at_call 60; fail))
  generalize hW3 : (w2.alloc (.cells #[.int .i64 0, .int .i64 0, .int .i64 0, .int .i64 0, .int .i64 0, .int .i64 0, .int .i64 0, .int .i64 0, .int .i64 0, .int .i64 0, .int .i64 0, .int .i64 0, .int .i64 0, .int .i64 0, .int .i64 0] 36)).setRow w2.heap.size (cellsI (rootI s [d0, d1, d2, d3, d4, d5, d6, d7, d8, d9, d10, d11] p q)) = w3 at H2 ⊢
  clear hW3
  refine (end_any _ _ _ _ ok2 _ zs p2 64 H2.out.1 hp2 (by omega) (by omega) hz).mono ?_
  rintro e w4 ⟨rfl, g4, p4, r4⟩
  have hs4 := g4.size
  have hl3 := H2.out.2.2.2.lt
  have k4 : Blk w4 w.heap.size #[.int .i64 0, .int .i64 0, .int .i64 0, .int .i64 0, .int .i64 0, .int .i64 0, .int .i64 0, .int .i64 0, .int .i64 0, .int .i64 0, .int .i64 0, .int .i64 0, .int .i64 0, .int .i64 0, .int .i64 0] 36 := (g4.block _ (by omega) (by simp)).trans H2.out.2.1
  have kr4 : Blk w4 w2.heap.size (cellsI (rootI s [d0, d1, d2, d3, d4, d5, d6, d7, d8, d9, d10, d11] p q)) 36 := (g4.block _ (by omega) (by simp; omega)).trans H2.out.2.2.2
  have H4 := hide (And.intro r4 (And.intro k4 (And.intro (H2.out.2.2.1.grown g4 (by omega) (fun k e => by cases e; omega)) kr4)))
  clear r4 k4 kr4 g4 H2
  have hl4 : w2.heap.size < w4.heap.size := by omega
  have hl5 : w.heap.size + 1 < w4.heap.size := by omega
  have cc : w4.cell? ⟨w.heap.size + 1, 0, none⟩ = some (.int .i64 21) := H4.out.1.ck.1
  have q0 : w4.cell? ⟨w2.heap.size, 0, none⟩ = some (.int .i64 s) := H4.out.2.2.2.cell 0
  have q1 : w4.cell? ⟨w2.heap.size, 1, none⟩ = some (.int .i64 d0) := H4.out.2.2.2.cell 1
  have q2 : w4.cell? ⟨w2.heap.size, 2, none⟩ = some (.int .i64 d1) := H4.out.2.2.2.cell 2
  have q3 : w4.cell? ⟨w2.heap.size, 3, none⟩ = some (.int .i64 d2) := H4.out.2.2.2.cell 3
  have q4 : w4.cell? ⟨w2.heap.size, 4, none⟩ = some (.int .i64 d3) := H4.out.2.2.2.cell 4
  have q5 : w4.cell? ⟨w2.heap.size, 5, none⟩ = some (.int .i64 d4) := H4.out.2.2.2.cell 5
  have q6 : w4.cell? ⟨w2.heap.size, 6, none⟩ = some (.int .i64 d5) := H4.out.2.2.2.cell 6
  have q7 : w4.cell? ⟨w2.heap.size, 7, none⟩ = some (.int .i64 d6) := H4.out.2.2.2.cell 7
  have q8 : w4.cell? ⟨w2.heap.size, 8, none⟩ = some (.int .i64 d7) := H4.out.2.2.2.cell 8
  have q9 : w4.cell? ⟨w2.heap.size, 9, none⟩ = some (.int .i64 d8) := H4.out.2.2.2.cell 9
  have q10 : w4.cell? ⟨w2.heap.size, 10, none⟩ = some (.int .i64 d9) := H4.out.2.2.2.cell 10
  have q11 : w4.cell? ⟨w2.heap.size, 11, none⟩ = some (.int .i64 d10) := H4.out.2.2.2.cell 11
  have q12 : w4.cell? ⟨w2.heap.size, 12, none⟩ = some (.int .i64 d11) := H4.out.2.2.2.cell 12
  have q13 : w4.cell? ⟨w2.heap.size, 13, none⟩ = some (.int .i64 p) := H4.out.2.2.2.cell 13
  have q14 : w4.cell? ⟨w2.heap.size, 14, none⟩ = some (.int .i64 q) := H4.out.2.2.2.cell 14
  go_wp2_with fail
  go_region_held (fun w' => w'.cell? ⟨w.heap.size + 1, 0, none⟩ = some (.int .i64 21) ∧ w'.cell? ⟨w2.heap.size, 0, none⟩ = some (.int .i64 s) ∧ w'.cell? ⟨w2.heap.size, 1, none⟩ = some (.int .i64 d0) ∧ w'.cell? ⟨w2.heap.size, 2, none⟩ = some (.int .i64 d1) ∧ w'.cell? ⟨w2.heap.size, 3, none⟩ = some (.int .i64 d2) ∧ w'.cell? ⟨w2.heap.size, 4, none⟩ = some (.int .i64 d3) ∧ w'.cell? ⟨w2.heap.size, 5, none⟩ = some (.int .i64 d4) ∧ w'.cell? ⟨w2.heap.size, 6, none⟩ = some (.int .i64 d5) ∧ w'.cell? ⟨w2.heap.size, 7, none⟩ = some (.int .i64 d6) ∧ w'.cell? ⟨w2.heap.size, 8, none⟩ = some (.int .i64 d7) ∧ w'.cell? ⟨w2.heap.size, 9, none⟩ = some (.int .i64 d8) ∧ w'.cell? ⟨w2.heap.size, 10, none⟩ = some (.int .i64 d9) ∧ w'.cell? ⟨w2.heap.size, 11, none⟩ = some (.int .i64 d10) ∧ w'.cell? ⟨w2.heap.size, 12, none⟩ = some (.int .i64 d11) ∧ w'.cell? ⟨w2.heap.size, 13, none⟩ = some (.int .i64 p) ∧ w'.cell? ⟨w2.heap.size, 14, none⟩ = some (.int .i64 q)) (go_keep) (first | (go_at_call 55; refine (rootFault_any s [d0, d1, d2, d3, d4, d5, d6, d7, d8, d9, d10, d11] p q 21 _ rfl).mono ?_; rintro e w5 ⟨ev, rfl, hf5, b5⟩; have re5 : ∀ o, w5.cell? ⟨w2.heap.size, o, none⟩ = w4.cell? ⟨w2.heap.size, o, none⟩ := fun o => b5.cell (p := ⟨w2.heap.size, o, none⟩) hl4; have re5b : ∀ o, w5.cell? ⟨w.heap.size + 1, o, none⟩ = w4.cell? ⟨w.heap.size + 1, o, none⟩ := fun o => b5.cell (p := ⟨w.heap.size + 1, o, none⟩) hl5) | (go_at_call 61; refine (inside_both (w.heap.size + 1) (w.heap.size + 1 + 1) _ 21 _ _ ev _ (H4.out.1.ck.below (((Below.refl _ _).drew).trans b5)) (hf5.mono (show w.heap.size + 1 + 1 ≤ w4.heap.size by omega)) (by omega) (Nat.le_trans (show w.heap.size + 1 + 1 ≤ w4.heap.size by omega) b5.size)).mono ?_; rintro e w6 ⟨rfl, hc6, ht6⟩; have re6 : ∀ o, w6.cell? ⟨w2.heap.size, o, none⟩ = w5.cell? ⟨w2.heap.size, o, none⟩ := fun o => World.cell?_of_block (a := ⟨w2.heap.size, o, none⟩) (ht6.1.block _ (Nat.lt_of_lt_of_le (show w2.heap.size < w4.heap.size by omega) b5.size) (by simp; omega)); have re7 := ht6.2.1 0 (by omega)))
  have ht6' : Tch (w.heap.size + 1) w4 w6 := (Tch.of_below hl5 (((Below.refl _ _).drew).trans b5)).trans ht6
  have hs6 := ht6'.1.size
  have k6 : Blk w6 w.heap.size #[.int .i64 0, .int .i64 0, .int .i64 0, .int .i64 0, .int .i64 0, .int .i64 0, .int .i64 0, .int .i64 0, .int .i64 0, .int .i64 0, .int .i64 0, .int .i64 0, .int .i64 0, .int .i64 0, .int .i64 0] 36 := (ht6'.1.block _ (by omega) (by simp)).trans H4.out.2.1
  have kr6 : Blk w6 w2.heap.size (cellsI (rootI s [d0, d1, d2, d3, d4, d5, d6, d7, d8, d9, d10, d11] p q)) 36 := (ht6'.1.block _ (by omega) (by simp; omega)).trans H4.out.2.2.2
  have bb6 : Below w.heap.size w w6 := H4.out.2.2.1.grown ht6'.1 (by omega) (fun k e => by cases e; omega)
  have K6 := hide (And.intro k6 (And.intro hc6 (And.intro kr6 bb6)))
  have HOK := hide (readR_of zs s [d0, d1, d2, d3, d4, d5, d6, d7, d8, d9, d10, d11] p q ok2 p2 HA.out.1 HA.out.2.1 rfl)
  generalize (ok2 && ((((zs.drop p2).take (64 - p2)).all fun z => decide (z = 0)) && decide (zs.length = 64)) && rightR s [d0, d1, d2, d3, d4, d5, d6, d7, d8, d9, d10, d11] p q) = okF at hc6 HOK
  clear q0 q1 q2 q3 q4 q5 q6 q7 q8 q9 q10 q11 q12 q13 q14 re5 re5b re6 re7 cc hf5 b5 ht6 ht6' k6 kr6 bb6 H4 hl4 hl5
  have q0 : w6.cell? ⟨w2.heap.size, 0, none⟩ = some (.int .i64 s) := K6.out.2.2.1.cell 0
  have q1 : w6.cell? ⟨w2.heap.size, 1, none⟩ = some (.int .i64 d0) := K6.out.2.2.1.cell 1
  have q2 : w6.cell? ⟨w2.heap.size, 2, none⟩ = some (.int .i64 d1) := K6.out.2.2.1.cell 2
  have q3 : w6.cell? ⟨w2.heap.size, 3, none⟩ = some (.int .i64 d2) := K6.out.2.2.1.cell 3
  have q4 : w6.cell? ⟨w2.heap.size, 4, none⟩ = some (.int .i64 d3) := K6.out.2.2.1.cell 4
  have q5 : w6.cell? ⟨w2.heap.size, 5, none⟩ = some (.int .i64 d4) := K6.out.2.2.1.cell 5
  have q6 : w6.cell? ⟨w2.heap.size, 6, none⟩ = some (.int .i64 d5) := K6.out.2.2.1.cell 6
  have q7 : w6.cell? ⟨w2.heap.size, 7, none⟩ = some (.int .i64 d6) := K6.out.2.2.1.cell 7
  have q8 : w6.cell? ⟨w2.heap.size, 8, none⟩ = some (.int .i64 d7) := K6.out.2.2.1.cell 8
  have q9 : w6.cell? ⟨w2.heap.size, 9, none⟩ = some (.int .i64 d8) := K6.out.2.2.1.cell 9
  have q10 : w6.cell? ⟨w2.heap.size, 10, none⟩ = some (.int .i64 d9) := K6.out.2.2.1.cell 10
  have q11 : w6.cell? ⟨w2.heap.size, 11, none⟩ = some (.int .i64 d10) := K6.out.2.2.1.cell 11
  have q12 : w6.cell? ⟨w2.heap.size, 12, none⟩ = some (.int .i64 d11) := K6.out.2.2.1.cell 12
  have q13 : w6.cell? ⟨w2.heap.size, 13, none⟩ = some (.int .i64 p) := K6.out.2.2.1.cell 13
  have q14 : w6.cell? ⟨w2.heap.size, 14, none⟩ = some (.int .i64 q) := K6.out.2.2.1.cell 14
  have r0 : w6.cell? ⟨w.heap.size, 0, none⟩ = some (.int .i64 0) := K6.out.1.cell 0
  have r1 : w6.cell? ⟨w.heap.size, 1, none⟩ = some (.int .i64 0) := K6.out.1.cell 1
  have r2 : w6.cell? ⟨w.heap.size, 2, none⟩ = some (.int .i64 0) := K6.out.1.cell 2
  have r3 : w6.cell? ⟨w.heap.size, 3, none⟩ = some (.int .i64 0) := K6.out.1.cell 3
  have r4 : w6.cell? ⟨w.heap.size, 4, none⟩ = some (.int .i64 0) := K6.out.1.cell 4
  have r5 : w6.cell? ⟨w.heap.size, 5, none⟩ = some (.int .i64 0) := K6.out.1.cell 5
  have r6 : w6.cell? ⟨w.heap.size, 6, none⟩ = some (.int .i64 0) := K6.out.1.cell 6
  have r7 : w6.cell? ⟨w.heap.size, 7, none⟩ = some (.int .i64 0) := K6.out.1.cell 7
  have r8 : w6.cell? ⟨w.heap.size, 8, none⟩ = some (.int .i64 0) := K6.out.1.cell 8
  have r9 : w6.cell? ⟨w.heap.size, 9, none⟩ = some (.int .i64 0) := K6.out.1.cell 9
  have r10 : w6.cell? ⟨w.heap.size, 10, none⟩ = some (.int .i64 0) := K6.out.1.cell 10
  have r11 : w6.cell? ⟨w.heap.size, 11, none⟩ = some (.int .i64 0) := K6.out.1.cell 11
  have r12 : w6.cell? ⟨w.heap.size, 12, none⟩ = some (.int .i64 0) := K6.out.1.cell 12
  have r13 : w6.cell? ⟨w.heap.size, 13, none⟩ = some (.int .i64 0) := K6.out.1.cell 13
  have r14 : w6.cell? ⟨w.heap.size, 14, none⟩ = some (.int .i64 0) := K6.out.1.cell 14
  have hfz : ∀ o, w6.frozen? ⟨w.heap.size, o, none⟩ = false := fun o => K6.out.1.frozen o
  have hl6 : w2.heap.size < w6.heap.size := by omega
  have hl7 : w.heap.size + 1 < w6.heap.size := by omega
  have hl8 : w.heap.size < w6.heap.size := by omega
  have hne1 : w.heap.size ≠ w2.heap.size := by omega
  obtain ⟨c1, c2, ev6, c3, c4⟩ := hc6
  clear c1 c2
  rcases c4 with ⟨rfl, rfl⟩ | ⟨rfl, m, c4⟩
  · have hok := HOK
    clear HOK
    go_wp2
    go_region_held (fun w' => w'.cell? ⟨w.heap.size + 1, 1, none⟩ = some .nilIface ∧ w'.cell? ⟨w2.heap.size, 0, none⟩ = some (.int .i64 s) ∧ w'.cell? ⟨w2.heap.size, 1, none⟩ = some (.int .i64 d0) ∧ w'.cell? ⟨w2.heap.size, 2, none⟩ = some (.int .i64 d1) ∧ w'.cell? ⟨w2.heap.size, 3, none⟩ = some (.int .i64 d2) ∧ w'.cell? ⟨w2.heap.size, 4, none⟩ = some (.int .i64 d3) ∧ w'.cell? ⟨w2.heap.size, 5, none⟩ = some (.int .i64 d4) ∧ w'.cell? ⟨w2.heap.size, 6, none⟩ = some (.int .i64 d5) ∧ w'.cell? ⟨w2.heap.size, 7, none⟩ = some (.int .i64 d6) ∧ w'.cell? ⟨w2.heap.size, 8, none⟩ = some (.int .i64 d7) ∧ w'.cell? ⟨w2.heap.size, 9, none⟩ = some (.int .i64 d8) ∧ w'.cell? ⟨w2.heap.size, 10, none⟩ = some (.int .i64 d9) ∧ w'.cell? ⟨w2.heap.size, 11, none⟩ = some (.int .i64 d10) ∧ w'.cell? ⟨w2.heap.size, 12, none⟩ = some (.int .i64 d11) ∧ w'.cell? ⟨w2.heap.size, 13, none⟩ = some (.int .i64 p) ∧ w'.cell? ⟨w2.heap.size, 14, none⟩ = some (.int .i64 q)) (go_keep) ((go_at_call 62; refine (toldR_ok (rootI s [d0, d1, d2, d3, d4, d5, d6, d7, d8, d9, d10, d11] p q) _ rfl).mono ?_; rintro e w7 ⟨he, b7⟩; have he' : e = .returned (.tuple #[.agg #[.int .i64 s, .int .i64 d0, .int .i64 d1, .int .i64 d2, .int .i64 d3, .int .i64 d4, .int .i64 d5, .int .i64 d6, .int .i64 d7, .int .i64 d8, .int .i64 d9, .int .i64 d10, .int .i64 d11, .int .i64 p, .int .i64 q], .int .i64 0]) := he; clear he; subst he'; have re7 : ∀ o, w7.cell? ⟨w2.heap.size, o, none⟩ = w6.cell? ⟨w2.heap.size, o, none⟩ := fun o => b7.cell (p := ⟨w2.heap.size, o, none⟩) hl6; have re8 : ∀ o, w7.cell? ⟨w.heap.size + 1, o, none⟩ = w6.cell? ⟨w.heap.size + 1, o, none⟩ := fun o => b7.cell (p := ⟨w.heap.size + 1, o, none⟩) hl7; have re9 : ∀ o, w7.cell? ⟨w.heap.size, o, none⟩ = w6.cell? ⟨w.heap.size, o, none⟩ := fun o => b7.cell (p := ⟨w.heap.size, o, none⟩) hl8; have fe9 : ∀ o, w7.frozen? ⟨w.heap.size, o, none⟩ = w6.frozen? ⟨w.heap.size, o, none⟩ := fun o => b7.frozen (p := ⟨w.heap.size, o, none⟩) hl8))
    have kb7 : Blk w7 w.heap.size (cellsI noRoot) 36 := Blk.below (w := w6.drew) K6.out.1 b7 hl8
    have HF := hide (And.intro (Blk.cells (rootI s [d0, d1, d2, d3, d4, d5, d6, d7, d8, d9, d10, d11] p q) 0 kb7 (Nat.le_refl 15)) (below_cells (b := w.heap.size) (Nat.le_refl _) ((rootI s [d0, d1, d2, d3, d4, d5, d6, d7, d8, d9, d10, d11] p q).map (Value.int .i64)) 0 (K6.out.2.2.2.trans ((((Below.refl _ w6).drew).trans b7).mono (by show w.heap.size ≤ w6.heap.size; omega)))))
    clear kb7 b7 re7 re8 re9 fe9 hfz c3 q0 r0 q1 r1 q2 r2 q3 r3 q4 r4 q5 r5 q6 r6 q7 r7 q8 r8 q9 r9 q10 r10 q11 r11 q12 r12 q13 r13 q14 r14
    go_wp2
    refine bodyPost_ret (v := .tuple #[.agg (cellsI (rootI s [d0, d1, d2, d3, d4, d5, d6, d7, d8, d9, d10, d11] p q)), .int .i64 0]) ?_ rfl ⟨s, [d0, d1, d2, d3, d4, d5, d6, d7, d8, d9, d10, d11], p, q, true, ?_, rfl, HF.out.2⟩
    · exact results_row_tmp rfl _ _ w.heap.size 36 (cellsI (rootI s [d0, d1, d2, d3, d4, d5, d6, d7, d8, d9, d10, d11] p q)) (0, 0) _ _ rfl rfl HF.out.1 Tryd.underlying36 rfl info15
    · exact hok.out
  · have hok := HOK
    have H6f := hide c4
    obtain ⟨t', x', rfl⟩ := c4.iface
    clear HOK c4
    go_wp2
    go_region_held (fun w' => w'.cell? ⟨w.heap.size + 1, 1, none⟩ = some (.iface t' (.pointer (some x'))) ∧ w'.cell? ⟨w2.heap.size, 0, none⟩ = some (.int .i64 s) ∧ w'.cell? ⟨w2.heap.size, 1, none⟩ = some (.int .i64 d0) ∧ w'.cell? ⟨w2.heap.size, 2, none⟩ = some (.int .i64 d1) ∧ w'.cell? ⟨w2.heap.size, 3, none⟩ = some (.int .i64 d2) ∧ w'.cell? ⟨w2.heap.size, 4, none⟩ = some (.int .i64 d3) ∧ w'.cell? ⟨w2.heap.size, 5, none⟩ = some (.int .i64 d4) ∧ w'.cell? ⟨w2.heap.size, 6, none⟩ = some (.int .i64 d5) ∧ w'.cell? ⟨w2.heap.size, 7, none⟩ = some (.int .i64 d6) ∧ w'.cell? ⟨w2.heap.size, 8, none⟩ = some (.int .i64 d7) ∧ w'.cell? ⟨w2.heap.size, 9, none⟩ = some (.int .i64 d8) ∧ w'.cell? ⟨w2.heap.size, 10, none⟩ = some (.int .i64 d9) ∧ w'.cell? ⟨w2.heap.size, 11, none⟩ = some (.int .i64 d10) ∧ w'.cell? ⟨w2.heap.size, 12, none⟩ = some (.int .i64 d11) ∧ w'.cell? ⟨w2.heap.size, 13, none⟩ = some (.int .i64 p) ∧ w'.cell? ⟨w2.heap.size, 14, none⟩ = some (.int .i64 q)) (go_keep) ((go_at_call 62; refine (toldR_bad (rootI s [d0, d1, d2, d3, d4, d5, d6, d7, d8, d9, d10, d11] p q) _ m _ 21 _ rfl (H6f.out.below ((Below.refl _ _).drew)) ((HR.out.2.below K6.out.2.2.2).below ((Below.refl _ _).drew))).mono ?_; rintro e w7 ⟨he, b7⟩; have he' : e = .returned (.tuple #[.agg #[.int .i64 0, .int .i64 0, .int .i64 0, .int .i64 0, .int .i64 0, .int .i64 0, .int .i64 0, .int .i64 0, .int .i64 0, .int .i64 0, .int .i64 0, .int .i64 0, .int .i64 0, .int .i64 0, .int .i64 0], .int .i64 21]) := he; clear he; subst he'; have re7 : ∀ o, w7.cell? ⟨w2.heap.size, o, none⟩ = w6.cell? ⟨w2.heap.size, o, none⟩ := fun o => b7.cell (p := ⟨w2.heap.size, o, none⟩) hl6; have re8 : ∀ o, w7.cell? ⟨w.heap.size + 1, o, none⟩ = w6.cell? ⟨w.heap.size + 1, o, none⟩ := fun o => b7.cell (p := ⟨w.heap.size + 1, o, none⟩) hl7; have re9 : ∀ o, w7.cell? ⟨w.heap.size, o, none⟩ = w6.cell? ⟨w.heap.size, o, none⟩ := fun o => b7.cell (p := ⟨w.heap.size, o, none⟩) hl8; have fe9 : ∀ o, w7.frozen? ⟨w.heap.size, o, none⟩ = w6.frozen? ⟨w.heap.size, o, none⟩ := fun o => b7.frozen (p := ⟨w.heap.size, o, none⟩) hl8))
    have kb7 : Blk w7 w.heap.size (cellsI noRoot) 36 := Blk.below (w := w6.drew) K6.out.1 b7 hl8
    have HF := hide (And.intro (Blk.cells noRoot 0 kb7 (Nat.le_refl 15)) (below_cells (b := w.heap.size) (Nat.le_refl _) (noRoot.map (Value.int .i64)) 0 (K6.out.2.2.2.trans ((((Below.refl _ w6).drew).trans b7).mono (by show w.heap.size ≤ w6.heap.size; omega)))))
    clear kb7 b7 re7 re8 re9 fe9 hfz c3 q0 r0 q1 r1 q2 r2 q3 r3 q4 r4 q5 r5 q6 r6 q7 r7 q8 r8 q9 r9 q10 r10 q11 r11 q12 r12 q13 r13 q14 r14
    go_wp2
    refine bodyPost_ret (v := .tuple #[.agg (cellsI noRoot), .int .i64 21]) ?_ rfl ⟨s, [d0, d1, d2, d3, d4, d5, d6, d7, d8, d9, d10, d11], p, q, false, ?_, rfl, HF.out.2⟩
    · exact results_row_tmp rfl _ _ w.heap.size 36 (cellsI noRoot) (0, 0) _ _ rfl rfl HF.out.1 Tryd.underlying36 rfl info15
    · exact hok.out
end Go.Proofs.YtojbohdabnbpfaaDoor
