/- The two nodes of a new state: marked, held; the law. -/
import Derived.Test.YtdkdmakjkodomaaNewA
import Derived.Test.YtdkdmakjkodomaaDrawA
namespace Go.Proofs.Ytdkdmakjkodomaa
set_option linter.unusedVariables false
set_option linter.unusedSimpArgs false
open Go.RowKit

def nodesK : Nat → Array Value
  | 0 => nodes0
  | 1 => #[.int .i64 1, .int .i64 2, .int .i64 3, .int .i64 4, .int .i64 5, .int .i64 6, .int .i64 7, .int .i64 8, .int .i64 9, .slice none 0 0, .int .i64 2, .int .i64 2, .int .i64 493, .int .i64 0, .int .i64 0, .int .i64 1, .int .i64 1, .int .i64 1, .int .i64 1, .slice none 0 0]
  | _ => nodes1
theorem Dr.refl (b : Nat) (w : World) : Dr b w w := ⟨⟨rfl, rfl, rfl, Nat.le_refl _, fun _ _ _ => rfl⟩, rfl⟩
set_option maxRecDepth 100000 in
set_option maxHeartbeats 1000000 in
theorem markNodes_any (b : Nat) (w : World) (h1 : Blk w b nodes0 27) :
    Calls Try.prog 34 #[.slice (some ⟨b, 0, none⟩) 2 2, .int .i64 1] w fun e w' => e = .returned (.int .i64 19) ∧ Blk w' b nodes1 27 ∧ Dr b w w' := by
  have HB := hide h1
  clear h1
  go_enter Try.func34, Try.ntmps34
  go_wp2
  go_loopw [1, 5] (fun a i wr => ∃ k : Nat, k ≤ 2 ∧ i = .int .i64 k ∧ a = .int .i64 (1 + 9 * (k : Int)) ∧ Blk wr b (nodesK k) 27 ∧ Dr b w wr) (fun _ i _ => 2 - (intOf i).toNat)
  case atStart => exact ⟨0, by omega, rfl, rfl, HB.out, Dr.refl _ _⟩
  case round =>
    obtain ⟨k, hk, rfl, rfl, hb, hd⟩ := hrel
    clear HB
    rcases (by omega : k = 0 ∨ k = 1 ∨ k = 2) with rfl | rfl | rfl
    · have hB : Blk wr b #[.int .i64 0, .int .i64 0, .int .i64 0, .int .i64 0, .int .i64 0, .int .i64 0, .int .i64 0, .int .i64 0, .int .i64 0, .slice none 0 0, .int .i64 2, .int .i64 2, .int .i64 493, .int .i64 0, .int .i64 0, .int .i64 1, .int .i64 1, .int .i64 1, .int .i64 1, .slice none 0 0] 27 := hb
      have f0 := hB.frozen 0
      have c0 := (hB.cell 0).trans (show _ = some (.int .i64 0) from rfl)
      have f1 := hB.frozen 1
      have c1 := (hB.cell 1).trans (show _ = some (.int .i64 0) from rfl)
      have f2 := hB.frozen 2
      have c2 := (hB.cell 2).trans (show _ = some (.int .i64 0) from rfl)
      have f3 := hB.frozen 3
      have c3 := (hB.cell 3).trans (show _ = some (.int .i64 0) from rfl)
      have f4 := hB.frozen 4
      have c4 := (hB.cell 4).trans (show _ = some (.int .i64 0) from rfl)
      have f5 := hB.frozen 5
      have c5 := (hB.cell 5).trans (show _ = some (.int .i64 0) from rfl)
      have f6 := hB.frozen 6
      have c6 := (hB.cell 6).trans (show _ = some (.int .i64 0) from rfl)
      have f7 := hB.frozen 7
      have c7 := (hB.cell 7).trans (show _ = some (.int .i64 0) from rfl)
      have f8 := hB.frozen 8
      have c8 := (hB.cell 8).trans (show _ = some (.int .i64 0) from rfl)
      have c9 := (hB.cell 9).trans (show _ = some (.slice none 0 0) from rfl)
      have q0 := hB
      have d0 := hd
      have q1 : Blk _ _ #[.int .i64 1, .int .i64 0, .int .i64 0, .int .i64 0, .int .i64 0, .int .i64 0, .int .i64 0, .int .i64 0, .int .i64 0, .slice none 0 0, .int .i64 2, .int .i64 2, .int .i64 493, .int .i64 0, .int .i64 0, .int .i64 1, .int .i64 1, .int .i64 1, .int .i64 1, .slice none 0 0] 27 := q0.set 0 (.int .i64 1)
      have d1 := d0.more (.int .i64 1) 0
      have q2 : Blk _ _ #[.int .i64 1, .int .i64 2, .int .i64 0, .int .i64 0, .int .i64 0, .int .i64 0, .int .i64 0, .int .i64 0, .int .i64 0, .slice none 0 0, .int .i64 2, .int .i64 2, .int .i64 493, .int .i64 0, .int .i64 0, .int .i64 1, .int .i64 1, .int .i64 1, .int .i64 1, .slice none 0 0] 27 := q1.set 1 (.int .i64 2)
      have d2 := d1.more (.int .i64 2) 1
      have q3 : Blk _ _ #[.int .i64 1, .int .i64 2, .int .i64 3, .int .i64 0, .int .i64 0, .int .i64 0, .int .i64 0, .int .i64 0, .int .i64 0, .slice none 0 0, .int .i64 2, .int .i64 2, .int .i64 493, .int .i64 0, .int .i64 0, .int .i64 1, .int .i64 1, .int .i64 1, .int .i64 1, .slice none 0 0] 27 := q2.set 2 (.int .i64 3)
      have d3 := d2.more (.int .i64 3) 2
      have q4 : Blk _ _ #[.int .i64 1, .int .i64 2, .int .i64 3, .int .i64 4, .int .i64 0, .int .i64 0, .int .i64 0, .int .i64 0, .int .i64 0, .slice none 0 0, .int .i64 2, .int .i64 2, .int .i64 493, .int .i64 0, .int .i64 0, .int .i64 1, .int .i64 1, .int .i64 1, .int .i64 1, .slice none 0 0] 27 := q3.set 3 (.int .i64 4)
      have d4 := d3.more (.int .i64 4) 3
      have q5 : Blk _ _ #[.int .i64 1, .int .i64 2, .int .i64 3, .int .i64 4, .int .i64 5, .int .i64 0, .int .i64 0, .int .i64 0, .int .i64 0, .slice none 0 0, .int .i64 2, .int .i64 2, .int .i64 493, .int .i64 0, .int .i64 0, .int .i64 1, .int .i64 1, .int .i64 1, .int .i64 1, .slice none 0 0] 27 := q4.set 4 (.int .i64 5)
      have d5 := d4.more (.int .i64 5) 4
      have q6 : Blk _ _ #[.int .i64 1, .int .i64 2, .int .i64 3, .int .i64 4, .int .i64 5, .int .i64 6, .int .i64 0, .int .i64 0, .int .i64 0, .slice none 0 0, .int .i64 2, .int .i64 2, .int .i64 493, .int .i64 0, .int .i64 0, .int .i64 1, .int .i64 1, .int .i64 1, .int .i64 1, .slice none 0 0] 27 := q5.set 5 (.int .i64 6)
      have d6 := d5.more (.int .i64 6) 5
      have q7 : Blk _ _ #[.int .i64 1, .int .i64 2, .int .i64 3, .int .i64 4, .int .i64 5, .int .i64 6, .int .i64 7, .int .i64 0, .int .i64 0, .slice none 0 0, .int .i64 2, .int .i64 2, .int .i64 493, .int .i64 0, .int .i64 0, .int .i64 1, .int .i64 1, .int .i64 1, .int .i64 1, .slice none 0 0] 27 := q6.set 6 (.int .i64 7)
      have d7 := d6.more (.int .i64 7) 6
      have q8 : Blk _ _ #[.int .i64 1, .int .i64 2, .int .i64 3, .int .i64 4, .int .i64 5, .int .i64 6, .int .i64 7, .int .i64 8, .int .i64 0, .slice none 0 0, .int .i64 2, .int .i64 2, .int .i64 493, .int .i64 0, .int .i64 0, .int .i64 1, .int .i64 1, .int .i64 1, .int .i64 1, .slice none 0 0] 27 := q7.set 7 (.int .i64 8)
      have d8 := d7.more (.int .i64 8) 7
      have q9 : Blk _ _ #[.int .i64 1, .int .i64 2, .int .i64 3, .int .i64 4, .int .i64 5, .int .i64 6, .int .i64 7, .int .i64 8, .int .i64 9, .slice none 0 0, .int .i64 2, .int .i64 2, .int .i64 493, .int .i64 0, .int .i64 0, .int .i64 1, .int .i64 1, .int .i64 1, .int .i64 1, .slice none 0 0] 27 := q8.set 8 (.int .i64 9)
      have d9 := d8.more (.int .i64 9) 8
      have KQ := hide (And.intro q9 d9)
      clear q0 q1 q2 q3 q4 q5 q6 q7 q8 q9 d0 d1 d2 d3 d4 d5 d6 d7 d8 d9 hB hb hd
      go_wp2_with (go_at_call 39; refine (markNil _ _).mono ?_; rintro e w4 ⟨rfl, rfl⟩)
      go_round
      case rel => exact ⟨1, by omega, rfl, rfl, KQ.out.1, KQ.out.2⟩
      case measure => simp [intOf]
    · have hB : Blk wr b #[.int .i64 1, .int .i64 2, .int .i64 3, .int .i64 4, .int .i64 5, .int .i64 6, .int .i64 7, .int .i64 8, .int .i64 9, .slice none 0 0, .int .i64 2, .int .i64 2, .int .i64 493, .int .i64 0, .int .i64 0, .int .i64 1, .int .i64 1, .int .i64 1, .int .i64 1, .slice none 0 0] 27 := hb
      have f0 := hB.frozen 10
      have c0 := (hB.cell 10).trans (show _ = some (.int .i64 2) from rfl)
      have f1 := hB.frozen 11
      have c1 := (hB.cell 11).trans (show _ = some (.int .i64 2) from rfl)
      have f2 := hB.frozen 12
      have c2 := (hB.cell 12).trans (show _ = some (.int .i64 493) from rfl)
      have f3 := hB.frozen 13
      have c3 := (hB.cell 13).trans (show _ = some (.int .i64 0) from rfl)
      have f4 := hB.frozen 14
      have c4 := (hB.cell 14).trans (show _ = some (.int .i64 0) from rfl)
      have f5 := hB.frozen 15
      have c5 := (hB.cell 15).trans (show _ = some (.int .i64 1) from rfl)
      have f6 := hB.frozen 16
      have c6 := (hB.cell 16).trans (show _ = some (.int .i64 1) from rfl)
      have f7 := hB.frozen 17
      have c7 := (hB.cell 17).trans (show _ = some (.int .i64 1) from rfl)
      have f8 := hB.frozen 18
      have c8 := (hB.cell 18).trans (show _ = some (.int .i64 1) from rfl)
      have c9 := (hB.cell 19).trans (show _ = some (.slice none 0 0) from rfl)
      have q0 := hB
      have d0 := hd
      have q1 : Blk _ _ #[.int .i64 1, .int .i64 2, .int .i64 3, .int .i64 4, .int .i64 5, .int .i64 6, .int .i64 7, .int .i64 8, .int .i64 9, .slice none 0 0, .int .i64 10, .int .i64 2, .int .i64 493, .int .i64 0, .int .i64 0, .int .i64 1, .int .i64 1, .int .i64 1, .int .i64 1, .slice none 0 0] 27 := q0.set 10 (.int .i64 10)
      have d1 := d0.more (.int .i64 10) 10
      have q2 : Blk _ _ #[.int .i64 1, .int .i64 2, .int .i64 3, .int .i64 4, .int .i64 5, .int .i64 6, .int .i64 7, .int .i64 8, .int .i64 9, .slice none 0 0, .int .i64 10, .int .i64 11, .int .i64 493, .int .i64 0, .int .i64 0, .int .i64 1, .int .i64 1, .int .i64 1, .int .i64 1, .slice none 0 0] 27 := q1.set 11 (.int .i64 11)
      have d2 := d1.more (.int .i64 11) 11
      have q3 : Blk _ _ #[.int .i64 1, .int .i64 2, .int .i64 3, .int .i64 4, .int .i64 5, .int .i64 6, .int .i64 7, .int .i64 8, .int .i64 9, .slice none 0 0, .int .i64 10, .int .i64 11, .int .i64 12, .int .i64 0, .int .i64 0, .int .i64 1, .int .i64 1, .int .i64 1, .int .i64 1, .slice none 0 0] 27 := q2.set 12 (.int .i64 12)
      have d3 := d2.more (.int .i64 12) 12
      have q4 : Blk _ _ #[.int .i64 1, .int .i64 2, .int .i64 3, .int .i64 4, .int .i64 5, .int .i64 6, .int .i64 7, .int .i64 8, .int .i64 9, .slice none 0 0, .int .i64 10, .int .i64 11, .int .i64 12, .int .i64 13, .int .i64 0, .int .i64 1, .int .i64 1, .int .i64 1, .int .i64 1, .slice none 0 0] 27 := q3.set 13 (.int .i64 13)
      have d4 := d3.more (.int .i64 13) 13
      have q5 : Blk _ _ #[.int .i64 1, .int .i64 2, .int .i64 3, .int .i64 4, .int .i64 5, .int .i64 6, .int .i64 7, .int .i64 8, .int .i64 9, .slice none 0 0, .int .i64 10, .int .i64 11, .int .i64 12, .int .i64 13, .int .i64 14, .int .i64 1, .int .i64 1, .int .i64 1, .int .i64 1, .slice none 0 0] 27 := q4.set 14 (.int .i64 14)
      have d5 := d4.more (.int .i64 14) 14
      have q6 : Blk _ _ #[.int .i64 1, .int .i64 2, .int .i64 3, .int .i64 4, .int .i64 5, .int .i64 6, .int .i64 7, .int .i64 8, .int .i64 9, .slice none 0 0, .int .i64 10, .int .i64 11, .int .i64 12, .int .i64 13, .int .i64 14, .int .i64 15, .int .i64 1, .int .i64 1, .int .i64 1, .slice none 0 0] 27 := q5.set 15 (.int .i64 15)
      have d6 := d5.more (.int .i64 15) 15
      have q7 : Blk _ _ #[.int .i64 1, .int .i64 2, .int .i64 3, .int .i64 4, .int .i64 5, .int .i64 6, .int .i64 7, .int .i64 8, .int .i64 9, .slice none 0 0, .int .i64 10, .int .i64 11, .int .i64 12, .int .i64 13, .int .i64 14, .int .i64 15, .int .i64 16, .int .i64 1, .int .i64 1, .slice none 0 0] 27 := q6.set 16 (.int .i64 16)
      have d7 := d6.more (.int .i64 16) 16
      have q8 : Blk _ _ #[.int .i64 1, .int .i64 2, .int .i64 3, .int .i64 4, .int .i64 5, .int .i64 6, .int .i64 7, .int .i64 8, .int .i64 9, .slice none 0 0, .int .i64 10, .int .i64 11, .int .i64 12, .int .i64 13, .int .i64 14, .int .i64 15, .int .i64 16, .int .i64 17, .int .i64 1, .slice none 0 0] 27 := q7.set 17 (.int .i64 17)
      have d8 := d7.more (.int .i64 17) 17
      have q9 : Blk _ _ #[.int .i64 1, .int .i64 2, .int .i64 3, .int .i64 4, .int .i64 5, .int .i64 6, .int .i64 7, .int .i64 8, .int .i64 9, .slice none 0 0, .int .i64 10, .int .i64 11, .int .i64 12, .int .i64 13, .int .i64 14, .int .i64 15, .int .i64 16, .int .i64 17, .int .i64 18, .slice none 0 0] 27 := q8.set 18 (.int .i64 18)
      have d9 := d8.more (.int .i64 18) 18
      have KQ := hide (And.intro q9 d9)
      clear q0 q1 q2 q3 q4 q5 q6 q7 q8 q9 d0 d1 d2 d3 d4 d5 d6 d7 d8 d9 hB hb hd
      go_wp2_with (go_at_call 39; refine (markNil _ _).mono ?_; rintro e w4 ⟨rfl, rfl⟩)
      go_round
      case rel => exact ⟨2, by omega, rfl, rfl, KQ.out.1, KQ.out.2⟩
      case measure => simp [intOf]
    · have KQ := hide (And.intro hb hd)
      clear hb hd
      go_wp2
      go_ret
      exact ⟨rfl, KQ.out.1, KQ.out.2⟩
set_option maxRecDepth 100000 in
set_option maxHeartbeats 1000000 in
theorem heldNodes_any (b : Nat) (w : World) (h1 : Blk w b nodes1 27) :
    Calls Try.prog 35 #[.slice (some ⟨b, 0, none⟩) 2 2, .int .i64 1] w fun e w' => e = .returned (.int .i64 19) ∧ w' = w := by
  have HB := hide h1
  clear h1
  go_enter Try.func35, Try.ntmps35
  go_wp2
  go_loop [1, 5] (fun a i => ∃ k : Nat, k ≤ 2 ∧ i = .int .i64 k ∧ a = .int .i64 (1 + 9 * (k : Int))) (fun _ i => 2 - (intOf i).toNat)
  case atStart => exact ⟨0, by omega, rfl, rfl⟩
  case round =>
    obtain ⟨k, hk, rfl, rfl⟩ := hrel
    rcases (by omega : k = 0 ∨ k = 1 ∨ k = 2) with rfl | rfl | rfl
    · have hB : Blk w b #[.int .i64 1, .int .i64 2, .int .i64 3, .int .i64 4, .int .i64 5, .int .i64 6, .int .i64 7, .int .i64 8, .int .i64 9, .slice none 0 0, .int .i64 10, .int .i64 11, .int .i64 12, .int .i64 13, .int .i64 14, .int .i64 15, .int .i64 16, .int .i64 17, .int .i64 18, .slice none 0 0] 27 := HB.out
      have c0 := (hB.cell 0).trans (show _ = some (.int .i64 1) from rfl)
      have c1 := (hB.cell 1).trans (show _ = some (.int .i64 2) from rfl)
      have c2 := (hB.cell 2).trans (show _ = some (.int .i64 3) from rfl)
      have c3 := (hB.cell 3).trans (show _ = some (.int .i64 4) from rfl)
      have c4 := (hB.cell 4).trans (show _ = some (.int .i64 5) from rfl)
      have c5 := (hB.cell 5).trans (show _ = some (.int .i64 6) from rfl)
      have c6 := (hB.cell 6).trans (show _ = some (.int .i64 7) from rfl)
      have c7 := (hB.cell 7).trans (show _ = some (.int .i64 8) from rfl)
      have c8 := (hB.cell 8).trans (show _ = some (.int .i64 9) from rfl)
      have c9 := (hB.cell 9).trans (show _ = some (.slice none 0 0) from rfl)
      clear hB
      go_wp2_with (go_at_call 40; refine (heldNil _ _).mono ?_; rintro e w4 ⟨rfl, rfl⟩)
      go_round
      case rel => exact ⟨1, by omega, rfl, rfl⟩
      case measure => simp [intOf]
    · have hB : Blk w b #[.int .i64 1, .int .i64 2, .int .i64 3, .int .i64 4, .int .i64 5, .int .i64 6, .int .i64 7, .int .i64 8, .int .i64 9, .slice none 0 0, .int .i64 10, .int .i64 11, .int .i64 12, .int .i64 13, .int .i64 14, .int .i64 15, .int .i64 16, .int .i64 17, .int .i64 18, .slice none 0 0] 27 := HB.out
      have c0 := (hB.cell 10).trans (show _ = some (.int .i64 10) from rfl)
      have c1 := (hB.cell 11).trans (show _ = some (.int .i64 11) from rfl)
      have c2 := (hB.cell 12).trans (show _ = some (.int .i64 12) from rfl)
      have c3 := (hB.cell 13).trans (show _ = some (.int .i64 13) from rfl)
      have c4 := (hB.cell 14).trans (show _ = some (.int .i64 14) from rfl)
      have c5 := (hB.cell 15).trans (show _ = some (.int .i64 15) from rfl)
      have c6 := (hB.cell 16).trans (show _ = some (.int .i64 16) from rfl)
      have c7 := (hB.cell 17).trans (show _ = some (.int .i64 17) from rfl)
      have c8 := (hB.cell 18).trans (show _ = some (.int .i64 18) from rfl)
      have c9 := (hB.cell 19).trans (show _ = some (.slice none 0 0) from rfl)
      clear hB
      go_wp2_with (go_at_call 40; refine (heldNil _ _).mono ?_; rintro e w4 ⟨rfl, rfl⟩)
      go_round
      case rel => exact ⟨2, by omega, rfl, rfl⟩
      case measure => simp [intOf]
    · go_wp2
      go_ret
      exact ⟨rfl, rfl⟩

/-- A state's value: the Clock and the nodes at block b. -/
abbrev stV (b : Nat) : Value := .agg #[.int .i64 1, .slice (some ⟨b, 0, none⟩) 2 2]
theorem eqState_any (b1 b2 : Nat) (w : World) (h1 : Blk w b1 nodes0 27) (h2 : Blk w b2 nodes0 27) :
    Calls Try.prog 21 #[stV b1, stV b2] w fun e w' => e = .returned (.bool true) ∧ Below w.heap.size w w' := by
  have HB := hide (And.intro h1 h2)
  have H0 := hide (show ∀ o o2, Below w.heap.size w ((w.alloc o).alloc o2) from fun o o2 => ((Below.refl _ _).alloc (Nat.le_refl _) o).alloc (by simp) o2)
  clear h1 h2
  go_enter Try.func21, Try.ntmps21
  go_wp2_with (go_at_call 33; refine (eqNodes_any b1 b2 _ (HB.out.1.below (H0.out _ _) HB.out.1.lt) (HB.out.2.below (H0.out _ _) HB.out.2.lt)).mono ?_; rintro e w4 ⟨rfl, b4⟩; have H4 := hide ((H0.out _ _).trans (b4.mono (H0.out _ _).size)); clear b4)
  go_ret
  exact ⟨rfl, H4.out⟩
theorem markState_any (b : Nat) (w : World) (h1 : Blk w b nodes0 27) :
    Calls Try.prog 22 #[stV b, .int .i64 1] w fun e w' => e = .returned (.int .i64 19) ∧ Blk w' b nodes1 27 ∧ ∃ o, Dr b (w.alloc o) w' := by
  have HB := hide h1
  clear h1
  go_enter Try.func22, Try.ntmps22
  go_wp2_with (go_at_call 34; refine (markNodes_any b _ (HB.out.alloc _)).mono ?_; rintro e w4 ⟨rfl, q4, d4⟩; have H4 := hide (And.intro q4 d4); clear q4 d4)
  go_ret
  exact ⟨rfl, H4.out.1, _, H4.out.2⟩
theorem heldState_any (b : Nat) (w : World) (h1 : Blk w b nodes1 27) :
    Calls Try.prog 23 #[stV b, .int .i64 1] w fun e w' => e = .returned (.int .i64 19) ∧ Below w.heap.size w w' := by
  have HB := hide h1
  have H0 := hide (show ∀ o, Below w.heap.size w (w.alloc o) from fun o => (Below.refl _ _).alloc (Nat.le_refl _) o)
  clear h1
  go_enter Try.func23, Try.ntmps23
  go_wp2_with (go_at_call 35; refine (heldNodes_any b _ (HB.out.alloc _)).mono ?_; rintro e w4 ⟨rfl, rfl⟩)
  go_ret
  exact ⟨rfl, H0.out _⟩
end Go.Proofs.Ytdkdmakjkodomaa
