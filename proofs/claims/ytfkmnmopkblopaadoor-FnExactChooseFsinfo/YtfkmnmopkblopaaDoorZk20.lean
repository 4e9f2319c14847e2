/- The root of a table of inodes: l02TableSize of the model, tableRootFault of the program. -/
import Derived.Test.YtfkmnmopkblopaaDoorZk13
namespace Go.Proofs.YtfkmnmopkblopaaDoor
set_option linter.unusedVariables false
set_option linter.unusedSimpArgs false
open Go.RowKit

def tabB (s : Int) : Bool := decide (256 ≤ s) && (s % 128 == 0) && decide (s ≤ 128128)
theorem tableSize_any (s : Int) (w : World) : Calls Tryd.prog 41 #[.int .i64 s] w fun e w' => e = .returned (.bool (tabB s)) ∧ w = w' := by
  by_cases h1 : 256 ≤ s
  · cases h2 : (s % 128 == 0) with
    | true =>
      have HR := hide (show tabB s = decide (s ≤ 128128) from by unfold tabB; rw [h2, decide_eq_true h1]; rfl)
      go_enter Tryd.func41, Tryd.ntmps41
      go_wp2
      go_ret
      exact ⟨ret_bool (by rw [HR.out]), rfl⟩
    | false =>
      have HR := hide (show tabB s = false from by unfold tabB; rw [h2, decide_eq_true h1]; rfl)
      go_enter Tryd.func41, Tryd.ntmps41
      go_wp2
      go_ret
      exact ⟨ret_bool (by rw [HR.out]), rfl⟩
  · have hq : decide (256 ≤ s) = false := by simp [h1]
    have HR := hide (show tabB s = false from by unfold tabB; rw [hq]; rfl)
    go_enter Tryd.func41, Tryd.ntmps41
    go_wp2
    go_ret
    exact ⟨ret_bool (by rw [HR.out]), rfl⟩
theorem tab_order (r : Bool) (s : Int) : (true && r && (decide (256 ≤ s) && decide (s ≤ 128128)) && (s % 128 == 0)) = (r && tabB s) := by
  unfold tabB
  cases r <;> cases decide (256 ≤ s) <;> cases decide (s ≤ 128128) <;> cases (s % 128 == 0) <;> rfl
theorem tab_neg (r b : Bool) (s : Int) (h : s < 0) : (true && r && (decide (256 ≤ s) && decide (s ≤ 128128)) && b) = (r && tabB s) := by
  unfold tabB
  rw [decide_eq_false (show ¬ 256 ≤ s by omega)]
  cases r <;> cases b <;> cases decide (s ≤ 128128) <;> cases (s % 128 == 0) <;> rfl

set_option maxRecDepth 100000 in
set_option maxHeartbeats 1000000 in
theorem tableFault_any (s : Int) (ds : List Int) (p q code : Int) (w : World) (hd : ds.length = 12) :
    Calls Tryd.prog 56 #[.agg (cellsI (rootI s ds p q)), .int .i64 code] w fun e w' => ∃ ev, e = .returned ev ∧ FaultIs w' w.heap.size (rightR s ds p q && tabB s) ev code ∧ Below w.heap.size w w' := by
  have HD := hide hd
  have HZ := hide (show (cellsI (rootI s ds p q)).size = 15 from by rw [cellsI_size]; exact rootI_len s ds p q HD.out)
  have kB := (Blk.new w (cellsI (rootI s ds p q)) 25).alloc (.cells #[.int .i64 code, .nilIface] 88)
  have kC := Ck.fresh (w.alloc (.cells (cellsI (rootI s ds p q)) 25)) code 88
  rw [World.size_alloc] at kC
  have hb0 : Below w.heap.size w ((w.alloc (.cells (cellsI (rootI s ds p q)) 25)).alloc (.cells #[.int .i64 code, .nilIface] 88)) := ((Below.refl _ _).alloc (Nat.le_refl _) _).alloc (by simp) _
  have H0 := hide (show Kp w ((w.alloc (.cells (cellsI (rootI s ds p q)) 25)).alloc (.cells #[.int .i64 code, .nilIface] 88)) (cellsI (rootI s ds p q)) 25 code true from ⟨kB, kC, hb0⟩)
  clear hd kB kC hb0
  go_enter Tryd.func56, Tryd.ntmps56
  go_wp2_with (first | (refine wpList_load_row rfl 25 _ rfl w.heap.size rfl 25 (cellsI (rootI s ds p q)) (0, 0) _ H0.out.blk Tryd.underlying25 rfl (by rw [HZ.out]; exact info15) ?_) | (go_at_call 58; fail))
  refine (rootFault_any s ds p q code _ HD.out).mono ?_
  rintro e w1 ⟨ev1, rfl, hf1, hb1⟩
  have H1 := hide (And.intro (H0.out.below hb1) (And.intro hf1 (And.intro H0.out.lo hb1.size)))
  clear hf1 hb1
  go_wp2_with fail
  refine (inside_fault w _ w1 _ _ code _ _ _ ev1 H1.out.1 H1.out.2.2.1 H1.out.2.2.2 H1.out.2.1).mono ?_
  rintro e w2 ⟨rfl, hk2⟩
  have H2 := hide hk2
  have c2 := (H2.out.blk.cell 0).trans (show (cellsI (rootI s ds p q))[0]? = some (.int .i64 s) from rfl)
  clear hk2 H1 H0
  go_wp2_with (go_at_call 53; fail)
  refine (within_any (w.heap.size + 1) (w.heap.size + 1 + 1) _ code s 256 128128 _ _ H2.out.ck (by omega) H2.out.lo).mono ?_
  rintro e w3 ⟨rfl, hc3, ht3⟩
  have H3 := hide (H2.out.tch hc3 ht3)
  have c3 := (H3.out.blk.cell 0).trans (show (cellsI (rootI s ds p q))[0]? = some (.int .i64 s) from rfl)
  clear hc3 ht3 H2 c2
  by_cases hs : 0 ≤ s
  · go_wp2_with (go_at_call 47; fail)
    refine (need_any (w.heap.size + 1) (w.heap.size + 1 + 1) _ code _ (s % 128 == 0) _ H3.out.ck (by omega) H3.out.lo).mono ?_
    rintro e w4 ⟨rfl, hc4, ht4⟩
    have H4 := hide (H3.out.tch hc4 ht4)
    obtain ⟨ev, c4, hf4⟩ := H4.out.fault
    have HV := hide (show FaultIs w4 w.heap.size (rightR s ds p q && tabB s) ev code from by rw [← tab_order]; exact hf4)
    clear hc4 ht4 hf4 H3 c3
    go_wp2
    go_ret
    exact ⟨ev, rfl, HV.out, H4.out.old⟩
  · have hneg : s < 0 := by omega
    go_wp2_with (go_at_call 47; fail)
    refine (need_any (w.heap.size + 1) (w.heap.size + 1 + 1) _ code _ _ _ H3.out.ck (by omega) H3.out.lo).mono ?_
    rintro e w4 ⟨rfl, hc4, ht4⟩
    have H4 := hide (H3.out.tch hc4 ht4)
    obtain ⟨ev, c4, hf4⟩ := H4.out.fault
    have HV := hide (show FaultIs w4 w.heap.size (rightR s ds p q && tabB s) ev code from by rw [← tab_neg _ _ _ hneg]; exact hf4)
    clear hc4 ht4 hf4 H3 c3
    go_wp2
    go_ret
    exact ⟨ev, rfl, HV.out, H4.out.old⟩
end Go.Proofs.YtfkmnmopkblopaaDoor
