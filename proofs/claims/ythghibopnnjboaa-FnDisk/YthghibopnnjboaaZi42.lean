/- A drawn choice of what survives. -/
import Derived.Test.YthghibopnnjboaaZi41
namespace Go.Proofs.Ythghibopnnjboaa
set_option linter.unusedVariables false
set_option linter.unusedSimpArgs false
open Go.RowKit

set_option maxRecDepth 100000 in
set_option maxHeartbeats 4000000 in
theorem choice_drawn {w0 W : World} {b : Nat} {cv : Value} {cs : List Int} (h : Sc w0 W b cv cs) :
    Calls Try.prog 11 #[.pointer (some ⟨b, 0, none⟩), .int .i64 90] W fun e w' => ∃ (v : Value) (zs : List Int), e = .returned v ∧ zs.length = 12 ∧ Byt zs ∧ w'.ownsRow W.heap.size 5 1 v 12 (zs.map (Value.int .u8)) ∧ Sc w0 w' b cv cs ∧ W.grownBy w' (some b) := by
  obtain ⟨i0, hi, hz0, hz1, hz2⟩ := info_parts infoU8
  have HD := hide (Dn.start h)
  clear h
  have H0 := hide (And.intro (HD.out.own (show Below W.heap.size W (W.alloc (.cells #[] 5)) from (Below.refl _ _).alloc (Nat.le_refl _) _)) (own_empty W 5))
  clear HD
  go_enter Try.func11, Try.ntmps11
  go_wp2_with fail
  refine (H0.out.1.sc.N 4 (by omega) (by omega)).mono ?_
  rintro e w1 ⟨mo, rfl, hm0, hm1, s1, d1⟩
  have H1 := hide (And.intro (H0.out.1.draw s1 d1) (H0.out.1.row H0.out.2 d1 (Nat.le_refl _)))
  clear s1 d1 H0
  go_wp2
  go_loopw [5, 7] (fun v i wr => ∃ (k : Nat) (zs : List Int), k ≤ 12 ∧ i = .int .i64 k ∧ zs.length = k ∧ Byt zs ∧ Dn w0 W wr b cv cs ∧ wr.ownsRow W.heap.size 5 1 v k (zs.map (Value.int .u8))) (fun _ i _ => 12 - (intOf i).toNat)
  case atStart => exact ⟨0, [], by omega, rfl, rfl, Byt.nil, H1.out.1, H1.out.2⟩
  case round =>
    clear H1
    obtain ⟨k, zs, hk, rfl, hl, hB, hd, ho⟩ := hrel
    have HK := hide (And.intro hd ho)
    have HB := hide (And.intro hl hB)
    clear hd ho hl hB
    by_cases hkn : k < 12
    · have hkI : (k : Int) < 12 := by omega
      rcases (by omega : mo = 0 ∨ mo = 1 ∨ mo = 2 ∨ mo = 3) with rfl | rfl | rfl | rfl
      · have HM := HK
        have HLE := hide HM.out.1.gb.size
        clear HK
        go_wp2_with (first | (at_builtin; refine append_fresh _ rfl (.tmp 34) (.tmp 36) 22 rfl W.heap.size 5 i0 (.int .u8 0) 1 1 Try.underlying22 hi hz0 hz1 hz2 rfl (by decide) _ _ _ rfl (HM.out.2.alloc _) ⟨wr.heap.size, 0, none⟩ 1 1 [.int .u8 (0)] rfl rfl (cell_one_new _ _ _) (one_u8 _) (by omega) (by unfold maxLen; omega) (by omega) (by have := HLE.out; simp; omega) ?_; intro v7 w7 o7 g7 f7; have O7 := hide o7; have G7 := hide g7; clear o7 g7 f7) | fail)
        have HW := hide (show Dn w0 W w7 b cv cs ∧ w7.ownsRow W.heap.size 5 1 v7 (k + 1) ((zs ++ [0]).map (Value.int .u8)) from ⟨HM.out.1.grew HM.out.2 G7.out (Nat.le_refl _), by rw [List.map_append]; exact O7.out⟩)
        have HC := hide (And.intro (show (zs ++ [0]).length = k + 1 by rw [List.length_append, HB.out.1]; rfl) (HB.out.2.snoc (z := 0) (by omega) (by omega)))
        clear HM O7 G7 HB
        go_roundw
        case rel => exact ⟨k + 1, _, by omega, by go_num, HC.out.1, HC.out.2, HW.out.1, HW.out.2⟩
        case measure => simp [intOf]; omega
      · have HM := HK
        have HLE := hide HM.out.1.gb.size
        clear HK
        go_wp2_with (first | (at_builtin; refine append_fresh _ rfl (.tmp 34) (.tmp 36) 22 rfl W.heap.size 5 i0 (.int .u8 0) 1 1 Try.underlying22 hi hz0 hz1 hz2 rfl (by decide) _ _ _ rfl (HM.out.2.alloc _) ⟨wr.heap.size, 0, none⟩ 1 1 [.int .u8 (255)] rfl rfl (cell_one_new _ _ _) (one_u8 _) (by omega) (by unfold maxLen; omega) (by omega) (by have := HLE.out; simp; omega) ?_; intro v7 w7 o7 g7 f7; have O7 := hide o7; have G7 := hide g7; clear o7 g7 f7) | fail)
        have HW := hide (show Dn w0 W w7 b cv cs ∧ w7.ownsRow W.heap.size 5 1 v7 (k + 1) ((zs ++ [255]).map (Value.int .u8)) from ⟨HM.out.1.grew HM.out.2 G7.out (Nat.le_refl _), by rw [List.map_append]; exact O7.out⟩)
        have HC := hide (And.intro (show (zs ++ [255]).length = k + 1 by rw [List.length_append, HB.out.1]; rfl) (HB.out.2.snoc (z := 255) (by omega) (by omega)))
        clear HM O7 G7 HB
        go_roundw
        case rel => exact ⟨k + 1, _, by omega, by go_num, HC.out.1, HC.out.2, HW.out.1, HW.out.2⟩
        case measure => simp [intOf]; omega
      · go_wp2_with fail
        refine (HK.out.1.sc.N 256 (by omega) (by omega)).mono ?_
        rintro e w2 ⟨z, rfl, hy0, hy1, s2, d2⟩
        have HM := hide (And.intro (HK.out.1.draw s2 d2) (HK.out.1.row HK.out.2 d2 (Nat.le_refl _)))
        have HLE := hide HM.out.1.gb.size
        clear s2 d2 HK
        go_wp2_with (first | (at_builtin; refine append_fresh _ rfl (.tmp 34) (.tmp 36) 22 rfl W.heap.size 5 i0 (.int .u8 0) 1 1 Try.underlying22 hi hz0 hz1 hz2 rfl (by decide) _ _ _ rfl (HM.out.2.alloc _) ⟨w2.heap.size, 0, none⟩ 1 1 [.int .u8 (z)] rfl rfl (cell_one_new _ _ _) (one_u8 _) (by omega) (by unfold maxLen; omega) (by omega) (by have := HLE.out; simp; omega) ?_; intro v7 w7 o7 g7 f7; have O7 := hide o7; have G7 := hide g7; clear o7 g7 f7) | fail)
        have HW := hide (show Dn w0 W w7 b cv cs ∧ w7.ownsRow W.heap.size 5 1 v7 (k + 1) ((zs ++ [z]).map (Value.int .u8)) from ⟨HM.out.1.grew HM.out.2 G7.out (Nat.le_refl _), by rw [List.map_append]; exact O7.out⟩)
        have HC := hide (And.intro (show (zs ++ [z]).length = k + 1 by rw [List.length_append, HB.out.1]; rfl) (HB.out.2.snoc (z := z) (by omega) (by omega)))
        clear HM O7 G7 HB
        go_roundw
        case rel => exact ⟨k + 1, _, by omega, by go_num, HC.out.1, HC.out.2, HW.out.1, HW.out.2⟩
        case measure => simp [intOf]; omega
      · by_cases h5 : 5 ≤ k
        · go_wp2_with fail
          refine (HK.out.1.sc.N 256 (by omega) (by omega)).mono ?_
          rintro e w2 ⟨z, rfl, hy0, hy1, s2, d2⟩
          have HM := hide (And.intro (HK.out.1.draw s2 d2) (HK.out.1.row HK.out.2 d2 (Nat.le_refl _)))
          have HLE := hide HM.out.1.gb.size
          clear s2 d2 HK
          have q5 : (5 : Int) ≤ (k : Int) := by omega
          go_wp2_with (first | (at_builtin; refine append_fresh _ rfl (.tmp 34) (.tmp 36) 22 rfl W.heap.size 5 i0 (.int .u8 0) 1 1 Try.underlying22 hi hz0 hz1 hz2 rfl (by decide) _ _ _ rfl (HM.out.2.alloc _) ⟨w2.heap.size, 0, none⟩ 1 1 [.int .u8 (0)] rfl rfl (cell_one_new _ _ _) (one_u8 _) (by omega) (by unfold maxLen; omega) (by omega) (by have := HLE.out; simp; omega) ?_; intro v7 w7 o7 g7 f7; have O7 := hide o7; have G7 := hide g7; clear o7 g7 f7) | fail)
          have HW := hide (show Dn w0 W w7 b cv cs ∧ w7.ownsRow W.heap.size 5 1 v7 (k + 1) ((zs ++ [0]).map (Value.int .u8)) from ⟨HM.out.1.grew HM.out.2 G7.out (Nat.le_refl _), by rw [List.map_append]; exact O7.out⟩)
          have HC := hide (And.intro (show (zs ++ [0]).length = k + 1 by rw [List.length_append, HB.out.1]; rfl) (HB.out.2.snoc (z := 0) (by omega) (by omega)))
          clear HM O7 G7 HB
          go_roundw
          case rel => exact ⟨k + 1, _, by omega, by go_num, HC.out.1, HC.out.2, HW.out.1, HW.out.2⟩
          case measure => simp [intOf]; omega
        · go_wp2_with fail
          refine (HK.out.1.sc.N 256 (by omega) (by omega)).mono ?_
          rintro e w2 ⟨z, rfl, hy0, hy1, s2, d2⟩
          have HM := hide (And.intro (HK.out.1.draw s2 d2) (HK.out.1.row HK.out.2 d2 (Nat.le_refl _)))
          have HLE := hide HM.out.1.gb.size
          clear s2 d2 HK
          have q5 : ¬ ((5 : Int) ≤ (k : Int)) := by omega
          go_wp2_with (first | (at_builtin; refine append_fresh _ rfl (.tmp 34) (.tmp 36) 22 rfl W.heap.size 5 i0 (.int .u8 0) 1 1 Try.underlying22 hi hz0 hz1 hz2 rfl (by decide) _ _ _ rfl (HM.out.2.alloc _) ⟨w2.heap.size, 0, none⟩ 1 1 [.int .u8 (z)] rfl rfl (cell_one_new _ _ _) (one_u8 _) (by omega) (by unfold maxLen; omega) (by omega) (by have := HLE.out; simp; omega) ?_; intro v7 w7 o7 g7 f7; have O7 := hide o7; have G7 := hide g7; clear o7 g7 f7) | fail)
          have HW := hide (show Dn w0 W w7 b cv cs ∧ w7.ownsRow W.heap.size 5 1 v7 (k + 1) ((zs ++ [z]).map (Value.int .u8)) from ⟨HM.out.1.grew HM.out.2 G7.out (Nat.le_refl _), by rw [List.map_append]; exact O7.out⟩)
          have HC := hide (And.intro (show (zs ++ [z]).length = k + 1 by rw [List.length_append, HB.out.1]; rfl) (HB.out.2.snoc (z := z) (by omega) (by omega)))
          clear HM O7 G7 HB
          go_roundw
          case rel => exact ⟨k + 1, _, by omega, by go_num, HC.out.1, HC.out.2, HW.out.1, HW.out.2⟩
          case measure => simp [intOf]; omega
    · obtain rfl : k = 12 := by omega
      go_wp2
      go_ret
      exact ⟨_, _, rfl, HB.out.1, HB.out.2, HK.out.2, HK.out.1.sc, HK.out.1.gb⟩
end Go.Proofs.Ythghibopnnjboaa
