/- The law on NewState: the walk. -/
import Derived.Test.YtdkdmakjkodomaaNewB
namespace Go.Proofs.Ytdkdmakjkodomaa
set_option linter.unusedVariables false
set_option linter.unusedSimpArgs false
open Go.RowKit

theorem infoSt2 : (Try.prog.info? 44).map (·.size) = some 2 := by kernel_rfl
abbrev stC (b : Nat) : Array Value := #[.int .i64 1, .slice (some ⟨b, 0, none⟩) 2 2]
/-- What a mark of the nodes at g leaves of another block. -/
theorem Dr.blk {b g : Nat} {w w' : World} {o : Obj} {C : Array Value} {t : TypeId} (h : Blk w b C t) (hd : Dr g (w.alloc o) w') (hne : b ≠ g) : Blk w' b C t :=
  (hd.1.block _ (by simp; have := h.lt; omega) (fun e => hne (by injection e))).trans (h.alloc o)
set_option maxRecDepth 100000 in
set_option maxHeartbeats 1000000 in
theorem lawNew (w : World) : Calls Try.prog 6 #[] w fun e w' => e = .returned (.bool true) ∧ Below w.heap.size w w' := by
  go_enter Try.func6, Try.ntmps6
  go_wp2_with (go_at_call 19; fail)
  refine (specNew_any _).mono ?_
  rintro e w1 ⟨B1, rfl, q1, g1, b1⟩
  have S1 := hide (show Below w.heap.size w (w1.alloc (.cells (stC B1) 44)) ∧ Blk (w1.alloc (.cells (stC B1) 44)) B1 nodes0 27 ∧ Blk (w1.alloc (.cells (stC B1) 44)) w1.heap.size (stC B1) 44 from ⟨b1.alloc b1.size _, q1.alloc _, Blk.new _ _ _⟩)
  have l1 := q1.lt
  have z1 := b1.size
  clear q1 b1
  go_wp2_with (go_at_call 20; fail)
  refine (implNew_any _).mono ?_
  rintro e w2 ⟨B2, rfl, q2, g2, b2⟩
  have S2 := hide (show Below w.heap.size w w2 ∧ Blk w2 B1 nodes0 27 ∧ Blk w2 w1.heap.size (stC B1) 44 ∧ Blk w2 B2 nodes0 27 from ⟨S1.out.1.trans (b2.mono S1.out.1.size), S1.out.2.1.below b2 S1.out.2.1.lt, S1.out.2.2.below b2 S1.out.2.2.lt, q2⟩)
  have l2 := q2.lt
  have z2 := b2.size
  simp only [World.size_alloc] at g2 z2
  clear q2 b2 S1
  have S3 := hide (show Below w.heap.size w (w2.alloc (.cells (stC B2) 44)) ∧ Blk (w2.alloc (.cells (stC B2) 44)) B1 nodes0 27 ∧ Blk (w2.alloc (.cells (stC B2) 44)) w1.heap.size (stC B1) 44 ∧ Blk (w2.alloc (.cells (stC B2) 44)) B2 nodes0 27 ∧ Blk (w2.alloc (.cells (stC B2) 44)) w2.heap.size (stC B2) 44 from ⟨S2.out.1.alloc S2.out.1.size _, S2.out.2.1.alloc _, S2.out.2.2.1.alloc _, S2.out.2.2.2.alloc _, Blk.new _ _ _⟩)
  clear S2
  go_wp2_with (first
    | (refine wpList_load_row rfl 44 _ rfl w1.heap.size rfl 44 (stC B1) (0, 0) _ S3.out.2.2.1 Try.underlying44 rfl infoSt2 ?_)
    | (go_at_call 21; fail))
  refine (eqState_any B2 B1 _ S3.out.2.2.2.1 S3.out.2.1).mono ?_
  rintro e w4 ⟨rfl, b4⟩
  have S4 := hide (show Below w.heap.size w w4 ∧ Blk w4 B1 nodes0 27 ∧ Blk w4 w1.heap.size (stC B1) 44 ∧ Blk w4 B2 nodes0 27 ∧ Blk w4 w2.heap.size (stC B2) 44 from ⟨S3.out.1.trans (b4.mono S3.out.1.size), S3.out.2.1.below b4 S3.out.2.1.lt, S3.out.2.2.1.below b4 S3.out.2.2.1.lt, S3.out.2.2.2.1.below b4 S3.out.2.2.2.1.lt, S3.out.2.2.2.2.below b4 S3.out.2.2.2.2.lt⟩)
  clear b4 S3
  go_wp2_with (first
    | (refine wpList_load_row rfl 44 _ rfl w2.heap.size rfl 44 (stC B2) (0, 0) _ S4.out.2.2.2.2 Try.underlying44 rfl infoSt2 ?_)
    | (go_at_call 22; fail))
  refine (markState_any B2 _ S4.out.2.2.2.1).mono ?_
  rintro e w5 ⟨rfl, q5, o5, d5⟩
  have S5 := hide (show Below w.heap.size w w5 ∧ Blk w5 B1 nodes0 27 ∧ Blk w5 w1.heap.size (stC B1) 44 ∧ Blk w5 B2 nodes1 27 ∧ Blk w5 w2.heap.size (stC B2) 44 from
    ⟨d5.under (S4.out.1.alloc S4.out.1.size _) (by omega), Dr.blk S4.out.2.1 d5 (by omega), Dr.blk S4.out.2.2.1 d5 (by omega), q5, Dr.blk S4.out.2.2.2.2 d5 (by omega)⟩)
  clear q5 d5 S4
  go_wp2_with (first
    | (refine wpList_load_row rfl 44 _ rfl w2.heap.size rfl 44 (stC B2) (0, 0) _ S5.out.2.2.2.2 Try.underlying44 rfl infoSt2 ?_)
    | (go_at_call 23; fail))
  refine (heldState_any B2 _ S5.out.2.2.2.1).mono ?_
  rintro e w6 ⟨rfl, b6⟩
  have S6 := hide (show Below w.heap.size w w6 ∧ Blk w6 B1 nodes0 27 ∧ Blk w6 w1.heap.size (stC B1) 44 ∧ Blk w6 B2 nodes1 27 ∧ Blk w6 w2.heap.size (stC B2) 44 from ⟨S5.out.1.trans (b6.mono S5.out.1.size), S5.out.2.1.below b6 S5.out.2.1.lt, S5.out.2.2.1.below b6 S5.out.2.2.1.lt, S5.out.2.2.2.1.below b6 S5.out.2.2.2.1.lt, S5.out.2.2.2.2.below b6 S5.out.2.2.2.2.lt⟩)
  clear b6 S5
  go_wp2_with (go_at_call 20; fail)
  refine (implNew_any _).mono ?_
  rintro e w7 ⟨B7, rfl, q7, g7, b7⟩
  have S7 := hide (show Below w.heap.size w (w7.alloc (.cells (stC B7) 44)) ∧ Blk (w7.alloc (.cells (stC B7) 44)) B1 nodes0 27 ∧ Blk (w7.alloc (.cells (stC B7) 44)) w1.heap.size (stC B1) 44 ∧ Blk (w7.alloc (.cells (stC B7) 44)) B2 nodes1 27 ∧ Blk (w7.alloc (.cells (stC B7) 44)) w2.heap.size (stC B2) 44 ∧ Blk (w7.alloc (.cells (stC B7) 44)) B7 nodes0 27 from
    ⟨(S6.out.1.trans (b7.mono S6.out.1.size)).alloc (Nat.le_trans S6.out.1.size b7.size) _, (S6.out.2.1.below b7 S6.out.2.1.lt).alloc _, (S6.out.2.2.1.below b7 S6.out.2.2.1.lt).alloc _, (S6.out.2.2.2.1.below b7 S6.out.2.2.2.1.lt).alloc _, (S6.out.2.2.2.2.below b7 S6.out.2.2.2.2.lt).alloc _, q7.alloc _⟩)
  clear q7 b7 S6 g7
  go_wp2_with (first
    | (refine wpList_load_row rfl 44 _ rfl w1.heap.size rfl 44 (stC B1) (0, 0) _ S7.out.2.2.1 Try.underlying44 rfl infoSt2 ?_)
    | (go_at_call 21; fail))
  refine (eqState_any B7 B1 _ S7.out.2.2.2.2.2 S7.out.2.1).mono ?_
  rintro e w8 ⟨rfl, b8⟩
  have S8 := hide (show Below w.heap.size w w8 ∧ Blk w8 B2 nodes1 27 ∧ Blk w8 w2.heap.size (stC B2) 44 from ⟨S7.out.1.trans (b8.mono S7.out.1.size), S7.out.2.2.2.1.below b8 S7.out.2.2.2.1.lt, S7.out.2.2.2.2.1.below b8 S7.out.2.2.2.2.1.lt⟩)
  clear b8 S7
  go_wp2_with (first
    | (refine wpList_load_row rfl 44 _ rfl w2.heap.size rfl 44 (stC B2) (0, 0) _ S8.out.2.2 Try.underlying44 rfl infoSt2 ?_)
    | (go_at_call 23; fail))
  refine (heldState_any B2 _ S8.out.2.1).mono ?_
  rintro e w9 ⟨rfl, b9⟩
  have S9 := hide (S8.out.1.trans (b9.mono S8.out.1.size))
  clear b9 S8
  go_wp2
  go_ret
  exact ⟨rfl, S9.out⟩
end Go.Proofs.Ytdkdmakjkodomaa
