/- The program's DecodeTable where the bytes tell inodes; both ways together. -/
import Derived.Test.YtlgafpjmifacmaaDoorZt36
namespace Go.Proofs.YtlgafpjmifacmaaDoor
set_option linter.unusedVariables false
set_option linter.unusedSimpArgs false
open Go.RowKit

set_option maxRecDepth 100000 in
set_option maxHeartbeats 1000000 in
theorem implDT_good (v : Value) (zs : List Int) (w : World) (h : Rd .u8 w v zs) (hbd : ∀ z ∈ zs, 0 ≤ z ∧ z < 256) (hz : zs.length ≤ 140737488355328) (hg : ErrT w) (hlen : zs.length ≤ 128128) (hr : readOk zs (List.range (numDT zs)) = true) :
    Calls Tryd.prog 17 #[v] w fun e w' => ∃ v', e = .returned (.tuple #[v', .int .i64 (codeDT zs)]) ∧ w'.ownsRow w.heap.size 44 24 v' (cntDT zs) ((decDT zs).map (Value.int .i64)) ∧ Below w.heap.size w w' := by
  have HX := hide (And.intro h (And.intro hbd hg))
  obtain ⟨a, cap, rfl, _⟩ := h
  have HL := hide (And.intro hlen hr)
  have HO := hide (show okDT zs = (okTo (rowsDT zs) (numDT zs) (numDT zs) && decide (numDT zs = tabN (rowsDT zs) (numDT zs))) from by unfold okDT; rw [decide_eq_true hlen, hr, Bool.true_and, Bool.true_and])
  have hn1 := numDT_le hlen
  clear hbd hg hr
  go_enter Tryd.func17, Tryd.ntmps17
  go_wp2_with (go_at_call 34; fail)
  refine (readTable_ok _ zs _ HX.out.1 HX.out.2.1 hz HX.out.2.2 HL.out.1).mono ?_
  rintro e w1 ⟨v1, ev1, rfl, hf1, o1, b1⟩
  obtain ⟨a1, cap1, rfl⟩ := ownT_shape o1
  rcases hf1 with ⟨_, rfl⟩ | ⟨hf1, _⟩
  case inr => exact absurd (HL.out.2.symm.trans hf1) (by simp)
  have O1 := hide (show w1.ownsRow w.heap.size 44 24 (.slice a1 (numDT zs) cap1) (numDT zs) ((rowsDT zs).map (Value.int .i64)) from o1)
  have B1 := hide b1
  have HLt := hide (fun k hk => (o1.lt k hk).2)
  rw [show pcs zs.length 128 = numDT zs from rfl] at HLt ⊢
  clear o1 b1
  have hrl := rowsDT_len zs
  generalize hNe : numDT zs = N at O1 HO hn1 HLt hrl ⊢
  generalize hZe : rowsDT zs = Z at O1 HO hrl
  have HFin := hide (show ∀ W : World, W.ownsRow w.heap.size 44 24 (.slice a1 N cap1) N (Z.map (Value.int .i64)) → W.ownsRow w.heap.size 44 24 (.slice a1 N cap1) (numDT zs) ((rowsDT zs).map (Value.int .i64)) from fun W h => by rw [hNe, hZe]; exact h)
  clear hNe hZe hrl
  have KF := hide (And.intro (Ck.fresh w1 21 63) ((Below.refl w1.heap.size w1).alloc (Nat.le_refl _) (.cells #[.int .i64 21, .nilIface] 63)))
  go_wp2_with (go_at_call 35; fail)
  refine (inside_nil w1.heap.size (w1.heap.size + 1) _ 21 true _ KF.out.1).mono ?_
  rintro e w2 ⟨rfl, hw2⟩
  have K2 := hide (show Ck w2 w1.heap.size (w1.heap.size + 1) 21 true ∧ Below w1.heap.size w1 w2 ∧ w1.heap.size + 1 ≤ w2.heap.size from by rw [hw2]; exact ⟨KF.out.1, KF.out.2, by simp⟩)
  clear hw2 KF
  have c20 := K2.out.1.1
  have hs2 := K2.out.2.2
  have hs1 := B1.out.size
  go_wp2_with (go_at_call 28; fail)
  refine (tableFault_any _ N Z 21 _ ((RdT.own O1.out).below K2.out.2.1)).mono ?_
  rintro e w3 ⟨ev3, rfl, hf3, b3⟩
  have hs3 := b3.size
  have B13 := hide (K2.out.2.1.trans (b3.mono (by omega)))
  have F3 := hide (hf3.mono (show w1.heap.size + 1 ≤ w2.heap.size by omega))
  have C3 := hide (K2.out.1.below b3)
  clear hf3 b3 K2 c20
  go_wp2_with fail
  refine (inside_both w1.heap.size (w1.heap.size + 1) _ 21 true _ ev3 _ C3.out F3.out (by omega) (by omega)).mono ?_
  rintro e w4 ⟨rfl, hc4, ht4⟩
  rw [Bool.true_and] at hc4
  have hs4 := ht4.1.size
  have C4 := hide hc4
  have B14 := hide (B13.out.grown ht4.1 (by omega) (fun k e => by cases e; exact Nat.le_refl _))
  clear hc4 ht4 C3 F3 B13
  go_wp2_with (go_at_call 27; fail)
  refine (tableOf_any _ N Z _ ((RdT.own O1.out).below B14.out) (by omega)).mono ?_
  rintro e w5 ⟨v5, rfl, o5, b5⟩
  obtain ⟨a5, cap5, rfl⟩ := ownT_shape o5
  have hs5 := b5.size
  have C5 := hide (C4.out.below b5)
  have B15 := hide (B14.out.trans (b5.mono (by omega)))
  clear o5 b5 C4 B14
  go_wp2_with fail
  refine (need_any w1.heap.size (w1.heap.size + 1) _ 21 _ _ _ C5.out (by omega) (by omega)).mono ?_
  rintro e w6 ⟨rfl, hc6, ht6⟩
  have hs6 := ht6.1.size
  have hq : ((N : Int) == ((tabN Z N : Nat) : Int)) = decide (N = tabN Z N) := by
    rw [Bool.eq_iff_iff, beq_iff_eq, decide_eq_true_eq]; omega
  rw [hq, ← HO.out] at hc6
  have B16 := hide (B15.out.grown ht6.1 (by omega) (fun k e => by cases e; exact Nat.le_refl _))
  have B6 := hide (B1.out.trans (B16.out.mono hs1))
  obtain ⟨ev6, c61, hf6⟩ := hc6.fault
  clear hc6 ht6 C5 B15 hq
  cases hok : okDT zs with
  | true =>
    rw [hok] at hf6
    rcases hf6 with ⟨_, rfl⟩ | ⟨hf6, _⟩
    case inr => cases hf6
    have HY := hide (okDT_yes hok)
    clear hok
    go_wp2_with (go_at_call 37; fail)
    refine (toldT_nil _ _ a1 N cap1 rfl).mono ?_
    rintro e w7 ⟨rfl, hw7⟩
    rw [hw7]
    clear hw7
    go_wp2
    go_ret2
    rw [HY.out.1, HY.out.2.1, HY.out.2.2]
    refine ⟨_, rfl, ?_, B6.out⟩
    exact HFin.out _ (own_below O1.out B16.out)
  | false =>
    rw [hok] at hf6
    rcases hf6 with ⟨hf6, _⟩ | ⟨_, m, hf6⟩
    · cases hf6
    have HF6 := hide hf6
    have HY := hide (okDT_not hok)
    obtain ⟨t', x', rfl⟩ := hf6.iface
    clear hf6 hok
    go_wp2_with (go_at_call 37; fail)
    refine (toldT_bad _ _ a1 N cap1 m _ 21 rfl (.inr ⟨_, HF6.out⟩) (HX.out.2.2.below B6.out)).mono ?_
    rintro e w7 ⟨rfl, b7⟩
    have B7 := hide (B6.out.trans (b7.mono B6.out.size))
    clear b7
    go_wp2
    go_ret2
    rw [HY.out.1, HY.out.2.1, HY.out.2.2]
    refine ⟨_, rfl, ?_, B7.out⟩
    exact World.ownsRow_nil _ _ _ _

theorem implDT_any (v : Value) (zs : List Int) (w : World) (h : Rd .u8 w v zs) (hbd : ∀ z ∈ zs, 0 ≤ z ∧ z < 256) (hz : zs.length ≤ 140737488355328) (hg : ErrT w) :
    Calls Tryd.prog 17 #[v] w fun e w' => ∃ v', e = .returned (.tuple #[v', .int .i64 (codeDT zs)]) ∧ w'.ownsRow w.heap.size 44 24 v' (cntDT zs) ((decDT zs).map (Value.int .i64)) ∧ Below w.heap.size w w' := by
  by_cases hlen : zs.length ≤ 128128
  · cases hr : readOk zs (List.range (numDT zs)) with
    | true => exact implDT_good v zs w h hbd hz hg hlen hr
    | false =>
      have hno : okDT zs = false := by unfold okDT; rw [hr, Bool.and_false, Bool.false_and]
      have hy := okDT_not hno
      refine (implDT_bad v zs w h hg ((readTable_ok v zs w h hbd hz hg hlen).mono ?_)).mono ?_
      · rintro e w' ⟨v', ev, rfl, hf, o, b⟩
        rcases hf with ⟨hf, _⟩ | ⟨_, m, hf⟩
        · exact absurd (hr.symm.trans hf) (by simp)
        · exact ⟨v', ev, _, _, rfl, ⟨m, hf⟩, o, numDT_le hlen, b⟩
      · rintro e w' ⟨rfl, b⟩
        refine ⟨_, by rw [hy.1], ?_, b⟩
        rw [hy.2.1, hy.2.2]
        exact World.ownsRow_nil _ _ _ _
  · have hno : okDT zs = false := by unfold okDT; rw [decide_eq_false hlen, Bool.false_and, Bool.false_and]
    have hy := okDT_not hno
    refine (implDT_bad v zs w h hg ((readTable_big v zs w h hbd hz hg hlen).mono ?_)).mono ?_
    · rintro e w' ⟨ev, rfl, ⟨m, hf⟩, b⟩
      exact ⟨_, ev, 0, [], rfl, ⟨m, hf⟩, World.ownsRow_nil _ _ _ _, by omega, b⟩
    · rintro e w' ⟨rfl, b⟩
      refine ⟨_, by rw [hy.1], ?_, b⟩
      rw [hy.2.1, hy.2.2]
      exact World.ownsRow_nil _ _ _ _
end Go.Proofs.YtlgafpjmifacmaaDoor
