/- The model's DecodeRoot, and the comparison of two roots. -/
import Derived.Test.YtojbohdabnbpfaaDoorRootV
import Derived.Laws.BytesArg

namespace Go.Proofs.YtojbohdabnbpfaaDoor
set_option linter.unusedVariables false
set_option linter.unusedSimpArgs false
open Go.RowKit

theorem spec_bytes (zs : List Int) (h : ∀ z ∈ zs, 0 ≤ z ∧ z < 256) (hz : zs.length = 64) (hR : rightR ((gval (zs.take 8) : Nat) : Int) (gwords zs 12) ((gval ((zs.drop 56).take 4) : Nat) : Int) ((gval ((zs.drop 60).take 4) : Nat) : Int) = true) :
    bytesR ((gval (zs.take 8) : Nat) : Int) (gwords zs 12) ((gval ((zs.drop 56).take 4) : Nat) : Int) ((gval ((zs.drop 60).take 4) : Nat) : Int) = zs := by
  have h3 : gwords zs 12 ++ [((gval ((zs.drop 56).take 4) : Nat) : Int), ((gval ((zs.drop 60).take 4) : Nat) : Int)] = wordsFrom zs 8 14 := by
    rw [wordsFrom_succ, wordsFrom_succ, gwords_words zs h, gval4 zs h, gval4 zs h]
    simp
  obtain ⟨_, _, _, h4, h5⟩ := root_agree zs _ _ _ _ h hz (gwords_len zs 12) (show RootAt zs 0 _ (gwords zs 12) _ _ from ⟨rfl, by rw [h3]⟩)
  rw [h4] at h5
  obtain ⟨h6, h7⟩ := h5 hR
  rw [← h6]
  exact h7

set_option maxRecDepth 100000 in
set_option maxHeartbeats 1000000 in
theorem specDR_bad (v : Value) (zs : List Int) (w : World) (h : Rd .u8 w v zs) (hz : zs.length ≠ 64) :
    Calls Tryd.prog 23 #[v] w fun e w' => e = .returned (.tuple #[.agg (cellsI noRoot), .int .i64 21]) ∧ Below w.heap.size w w' := by
  have HB := hide (show ∀ C, Below w.heap.size w (w.alloc C) from fun C => (Below.refl _ _).alloc (Nat.le_refl _) _)
  obtain ⟨a, cap, rfl, hm, _⟩ := h
  unfold maxLen at hm
  have hn : ¬ ((zs.length : Int) = 64) := by omega
  go_enter Tryd.func23, Tryd.ntmps23
  go_wp2
  refine bodyPost_ret (v := .tuple #[.agg (cellsI noRoot), .int .i64 21]) ?_ rfl ⟨rfl, HB.out _⟩
  exact results_row_tmp rfl _ _ w.heap.size 36 (cellsI noRoot) (0, 0) _ _ rfl rfl (Blk.new w _ _) Tryd.underlying36 rfl info15

set_option maxRecDepth 100000 in
set_option maxHeartbeats 1000000 in
theorem specDR_64 (v : Value) (zs : List Int) (w : World) (h : Rd .u8 w v zs) (hbd : ∀ z ∈ zs, 0 ≤ z ∧ z < 256) (hz : zs.length = 64) (x1 : Int) (ds : List Int) (x2 x3 : Int)
    (e1 : x1 = ((gval (zs.take 8) : Nat) : Int)) (e2 : ds = gwords zs 12) (e3 : x2 = ((gval ((zs.drop 56).take 4) : Nat) : Int)) (e4 : x3 = ((gval ((zs.drop 60).take 4) : Nat) : Int)) (hd : ds.length = 12) (ok : Bool) (hok : rightR x1 ds x2 x3 = ok) :
    Calls Tryd.prog 23 #[v] w fun e w' => e = .returned (.tuple #[.agg (cellsI (if ok = true then rootI x1 ds x2 x3 else noRoot)), .int .i64 (if ok = true then 0 else 21)]) ∧ Below w.heap.size w w' := by
  have HR := hide h
  have HBD := hide hbd
  have HS := hide (And.intro e1 (And.intro e2 (And.intro e3 e4)))
  have HZ := hide (show (cellsI (rootI x1 ds x2 x3)).size = 15 from by rw [cellsI_size]; exact rootI_len _ _ _ _ hd)
  have HOK := hide hok
  have HD := hide hd
  have HZ0 := hide hz
  obtain ⟨bd, off, cap, rfl, hbw, hcl, hcm, hcell⟩ := h.partsC (by omega)
  have HC := hide hcell
  clear h hbd e1 e2 e3 e4 hok hd hcell hcl hcm
  rw [hz]
  clear hz
  have HB0 := hide (show ∀ C, Below w.heap.size w (w.alloc C) from fun C => (Below.refl _ _).alloc (Nat.le_refl _) _)
  go_enter Tryd.func23, Tryd.ntmps23
  go_wp2_with fail
  have hC := rootOf_any _ zs _ (HR.out.below (HB0.out (.cells #[.int .i64 0, .int .i64 0, .int .i64 0, .int .i64 0, .int .i64 0, .int .i64 0, .int .i64 0, .int .i64 0, .int .i64 0, .int .i64 0, .int .i64 0, .int .i64 0, .int .i64 0, .int .i64 0, .int .i64 0] 36))) HBD.out HZ0.out
  rw [HZ0.out, ← HS.out.1, ← HS.out.2.1, ← HS.out.2.2.1, ← HS.out.2.2.2] at hC
  refine hC.mono ?_
  rintro e w1 ⟨rfl, b1⟩
  have K0 := hide ((Blk.new w (cellsI noRoot) 36).below b1 (by simp))
  have B1 := hide ((HB0.out (.cells (cellsI noRoot) 36)).trans (b1.mono (HB0.out _).size))
  clear b1 hC
  have hlt1 : w.heap.size < w1.heap.size := K0.out.lt
  have K1 := hide (show Blk ((w1.alloc (.cells #[.int .i64 0, .int .i64 0, .int .i64 0, .int .i64 0, .int .i64 0, .int .i64 0, .int .i64 0, .int .i64 0, .int .i64 0, .int .i64 0, .int .i64 0, .int .i64 0, .int .i64 0, .int .i64 0, .int .i64 0] 36)).setRow w1.heap.size (cellsI (rootI x1 ds x2 x3))) w1.heap.size (cellsI (rootI x1 ds x2 x3)) 36 ∧ Blk ((w1.alloc (.cells #[.int .i64 0, .int .i64 0, .int .i64 0, .int .i64 0, .int .i64 0, .int .i64 0, .int .i64 0, .int .i64 0, .int .i64 0, .int .i64 0, .int .i64 0, .int .i64 0, .int .i64 0, .int .i64 0, .int .i64 0] 36)).setRow w1.heap.size (cellsI (rootI x1 ds x2 x3))) w.heap.size (cellsI noRoot) 36 ∧ Below w.heap.size w ((w1.alloc (.cells #[.int .i64 0, .int .i64 0, .int .i64 0, .int .i64 0, .int .i64 0, .int .i64 0, .int .i64 0, .int .i64 0, .int .i64 0, .int .i64 0, .int .i64 0, .int .i64 0, .int .i64 0, .int .i64 0, .int .i64 0] 36)).setRow w1.heap.size (cellsI (rootI x1 ds x2 x3))) from
    ⟨(Blk.new w1 #[.int .i64 0, .int .i64 0, .int .i64 0, .int .i64 0, .int .i64 0, .int .i64 0, .int .i64 0, .int .i64 0, .int .i64 0, .int .i64 0, .int .i64 0, .int .i64 0, .int .i64 0, .int .i64 0, .int .i64 0] 36).row _, (setRow_block _ _ _ _ (by omega)).trans (K0.out.alloc _), below_setRow (B1.out.alloc (by omega) _) (by omega) _⟩)
  go_wp2_with (first | (refine wpList_store_row rfl 36 _ _ rfl w1.heap.size (cellsI (rootI x1 ds x2 x3)) rfl rfl 36 _ (Blk.new w1 #[.int .i64 0, .int .i64 0, .int .i64 0, .int .i64 0, .int .i64 0, .int .i64 0, .int .i64 0, .int .i64 0, .int .i64 0, .int .i64 0, .int .i64 0, .int .i64 0, .int .i64 0, .int .i64 0, .int .i64 0] 36) (by rw [HZ.out]; exact info15) (by rw [HZ.out]; rfl) (cellsI_one _) ?_) | (refine wpList_load_row rfl 36 _ rfl w1.heap.size rfl 36 (cellsI (rootI x1 ds x2 x3)) (0, 0) _ K1.out.1 Tryd.underlying36 rfl (by rw [HZ.out]; exact info15) ?_) | (go_at_call 20; fail))
  generalize hW3 : ((w1.alloc (.cells #[.int .i64 0, .int .i64 0, .int .i64 0, .int .i64 0, .int .i64 0, .int .i64 0, .int .i64 0, .int .i64 0, .int .i64 0, .int .i64 0, .int .i64 0, .int .i64 0, .int .i64 0, .int .i64 0, .int .i64 0] 36)).setRow w1.heap.size (cellsI (rootI x1 ds x2 x3))) = w2 at K1 ⊢
  clear hW3
  refine (specR_any x1 ds x2 x3 _ HD.out).mono ?_
  rintro e w3 ⟨v3, rfl, o3, b3⟩
  have hs2 := K1.out.1.lt
  have K3 := hide (And.intro (K1.out.1.below b3 hs2) (And.intro (K1.out.2.1.below b3 (by omega)) (K1.out.2.2.trans (b3.mono (by omega)))))
  have O3 := hide o3
  clear b3 o3
  cases ok with
  | false =>
    have hc : codeR x1 ds x2 x3 = 7 := by unfold codeR; rw [HOK.out]; rfl
    rw [hc]
    go_wp2_with (refine wpList_store_row rfl 36 _ _ rfl w.heap.size #[.int .i64 0, .int .i64 0, .int .i64 0, .int .i64 0, .int .i64 0, .int .i64 0, .int .i64 0, .int .i64 0, .int .i64 0, .int .i64 0, .int .i64 0, .int .i64 0, .int .i64 0, .int .i64 0, .int .i64 0] rfl rfl 36 _ K3.out.2.1 info15 rfl (cellsI_one noRoot) ?_)
    refine bodyPost_ret (v := .tuple #[.agg (cellsI noRoot), .int .i64 21]) ?_ rfl ⟨rfl, below_setRow K3.out.2.2 (Nat.le_refl _) _⟩
    exact results_row_tmp rfl _ _ w.heap.size 36 (cellsI noRoot) (0, 0) _ _ rfl rfl (K3.out.2.1.row _) Tryd.underlying36 rfl info15
  | true =>
    have hc : codeR x1 ds x2 x3 = 0 := by unfold codeR; rw [HOK.out]; rfl
    have he : encR x1 ds x2 x3 = zs := by
      unfold encR
      rw [if_pos HOK.out]
      have h1 := HOK.out
      have h2 := HS.out
      obtain ⟨e1, e2, e3, e4⟩ := h2
      rw [e1, e2, e3, e4] at h1 ⊢
      exact spec_bytes zs HBD.out HZ0.out h1
    rw [hc]
    have o3 := O3.out
    rw [he] at o3
    obtain ⟨g3, of3, cp3, rfl, hg3, _, _, hcell3⟩ := (Rd.own o3).partsC (by rw [HZ0.out]; omega)
    have hcb : ∀ i, i < 64 → w3.cell? ⟨bd, off + i, none⟩ = some (.int .u8 (zs.getD i 0)) := fun i hi => (K3.out.2.2.cell (p := ⟨bd, off + i, none⟩) hbw).trans (HC.out i (by rw [HZ0.out]; exact hi))
    have v1 := run_convert_bytes_arg (P := Tryd.prog) w3 23 5 Tryd.underlying23 Tryd.underlying5 bd off 64 cap zs HZ0.out hcb 9 Tryd.underlying9
    have v2 := run_convert_bytes_arg (P := Tryd.prog) w3 23 5 Tryd.underlying23 Tryd.underlying5 g3 of3 zs.length cp3 zs rfl hcell3 9 Tryd.underlying9
    generalize strOfNums zs = S at v1 v2
    clear hcb hcell3 o3 he hc
    go_wp2_with (first | (refine wpList_load_row rfl 36 _ rfl w1.heap.size rfl 36 (cellsI (rootI x1 ds x2 x3)) (0, 0) _ K3.out.1 Tryd.underlying36 rfl (by rw [HZ.out]; exact info15) ?_) | (refine wpList_store_row rfl 36 _ _ rfl w.heap.size (cellsI (rootI x1 ds x2 x3)) rfl rfl 36 _ K3.out.2.1 (by rw [HZ.out]; exact info15) (by rw [HZ.out]; rfl) (cellsI_one _) ?_))
    refine bodyPost_ret (v := .tuple #[.agg (cellsI (rootI x1 ds x2 x3)), .int .i64 0]) ?_ rfl ⟨rfl, below_setRow K3.out.2.2 (Nat.le_refl _) _⟩
    exact results_row_tmp rfl _ _ w.heap.size 36 (cellsI (rootI x1 ds x2 x3)) (0, 0) _ _ rfl rfl (K3.out.2.1.row _) Tryd.underlying36 rfl (by rw [HZ.out]; exact info15)

/-- What DecodeRoot tells of bytes. -/
def okDR (zs : List Int) : Bool := decide (zs.length = 64) && rightR ((gval (zs.take 8) : Nat) : Int) (gwords zs 12) ((gval ((zs.drop 56).take 4) : Nat) : Int) ((gval ((zs.drop 60).take 4) : Nat) : Int)
def decR (zs : List Int) : List Int := if okDR zs = true then rootI ((gval (zs.take 8) : Nat) : Int) (gwords zs 12) ((gval ((zs.drop 56).take 4) : Nat) : Int) ((gval ((zs.drop 60).take 4) : Nat) : Int) else noRoot
def codeDR (zs : List Int) : Int := if okDR zs = true then 0 else 21
theorem decR_root (zs : List Int) : ∃ s ds p q, ds.length = 12 ∧ decR zs = rootI s ds p q := by
  unfold decR
  split
  · exact ⟨_, _, _, _, gwords_len zs 12, rfl⟩
  · exact ⟨0, List.replicate 12 0, 0, 0, rfl, rfl⟩
theorem specDR_any (v : Value) (zs : List Int) (w : World) (h : Rd .u8 w v zs) (hbd : ∀ z ∈ zs, 0 ≤ z ∧ z < 256) :
    Calls Tryd.prog 23 #[v] w fun e w' => e = .returned (.tuple #[.agg (cellsI (decR zs)), .int .i64 (codeDR zs)]) ∧ Below w.heap.size w w' := by
  by_cases hz : zs.length = 64
  · have := specDR_64 v zs w h hbd hz _ _ _ _ rfl rfl rfl rfl (gwords_len zs 12) (okDR zs) (by unfold okDR; rw [decide_eq_true hz, Bool.true_and])
    exact this
  · have := specDR_bad v zs w h hz
    have e : okDR zs = false := by unfold okDR; rw [decide_eq_false hz, Bool.false_and]
    unfold decR codeDR
    rw [e]
    exact this
theorem implDR_same (v : Value) (zs : List Int) (w : World) (h : Rd .u8 w v zs) (hbd : ∀ z ∈ zs, 0 ≤ z ∧ z < 256) (hz : zs.length ≤ 140737488355328) (hg : ErrT w) :
    Calls Tryd.prog 25 #[v] w fun e w' => e = .returned (.tuple #[.agg (cellsI (decR zs)), .int .i64 (codeDR zs)]) ∧ Below w.heap.size w w' := by
  refine (implDR_any v zs w h hbd hz hg).mono ?_
  rintro e w' ⟨s, ds, p, q, ok, ⟨hd, h1, h2⟩, rfl, hb⟩
  refine ⟨?_, hb⟩
  by_cases h64 : zs.length = 64
  · obtain ⟨hr, hok⟩ := h2 h64
    obtain ⟨e1, e2, e3, e4, e5⟩ := root_agree zs s ds p q hbd h64 hd hr
    have e6 : okDR zs = ok := by
      unfold okDR
      rw [decide_eq_true h64, Bool.true_and, hok, e4, e1, e2, e3]
    unfold decR codeDR
    rw [e6]
    cases ok with
    | false => rfl
    | true =>
      have e7 := (e5 hok.symm).1
      rw [if_pos rfl, if_pos rfl, ← e1, ← e2, ← e3, ← e7]
      rfl
  · have e : okDR zs = false := by unfold okDR; rw [decide_eq_false h64, Bool.false_and]
    have e8 : ok = false := by
      cases ok with
      | false => rfl
      | true => exact absurd (h1 rfl).2.2 h64
    unfold decR codeDR
    rw [e, e8]
    rfl
end Go.Proofs.YtojbohdabnbpfaaDoor
