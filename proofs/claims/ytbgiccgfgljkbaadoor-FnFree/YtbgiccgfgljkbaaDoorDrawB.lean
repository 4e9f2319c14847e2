/- A drawn map: L04DrawWords. -/
import Derived.Test.YtbgiccgfgljkbaaDoorDrawA
import Derived.Test.YtbgiccgfgljkbaaDoorPlaneD
namespace Go.Proofs.YtbgiccgfgljkbaaDoor
set_option linter.unusedVariables false
set_option linter.unusedSimpArgs false
open Go.RowKit

/-- Words, the first two of them 1. -/
def Good (L : List Int) : Prop := (∀ i, i < L.length → wordB (L.getD i 0) = true) ∧ L.getD 0 0 = 1 ∧ L.getD 1 0 = 1 ∧ 2 ≤ L.length
theorem good_two : Good [1, 1] := by
  refine ⟨fun i hi => ?_, rfl, rfl, by simp⟩
  have : i = 0 ∨ i = 1 := by simp at hi; omega
  rcases this with rfl | rfl <;> rfl
theorem good_snoc (L : List Int) (z : Int) (h : Good L) (hz : wordB z = true) : Good (L ++ [z]) := by
  obtain ⟨h1, h2, h3, h4⟩ := h
  have hl : ∀ i, i < L.length → (L ++ [z]).getD i 0 = L.getD i 0 := fun i hi => by
    rw [List.getD_eq_getElem?_getD, List.getD_eq_getElem?_getD, List.getElem?_append_left hi]
  refine ⟨fun i hi => ?_, by rw [hl 0 (by omega)]; exact h2, by rw [hl 1 (by omega)]; exact h3, by simp; omega⟩
  by_cases e : i < L.length
  · rw [hl i e]; exact h1 i e
  · have : i = L.length := by simp at hi; omega
    subst this
    simpa [List.getD] using hz
theorem good_ok (L : List Int) (h : Good L) : ∀ k, k ≤ L.length → okTo L k = true
  | 0, _ => rfl
  | k + 1, hk => by
    show (okTo L k && (wordB (L.getD k 0) && headB k (L.getD k 0))) = true
    rw [good_ok L h k (by omega), h.1 k (by omega)]
    have : headB k (L.getD k 0) = true := by
      unfold headB
      by_cases h2 : 2 ≤ k
      · simp [h2]
      · have : k = 0 ∨ k = 1 := by omega
        rcases this with rfl | rfl
        · rw [h.2.1]; simp
        · rw [h.2.2.1]; simp
    rw [this]; rfl
theorem good_right (L : List Int) (h : Good L) (h1 : 64 ≤ L.length) (h2 : L.length ≤ 2048) : rightM L = true := by
  unfold rightM sizeB
  rw [good_ok L h _ (Nat.le_refl _)]
  simp; omega
def lenV : Value → Nat
  | .slice _ n _ => n
  | _ => 0
theorem lenV_own {w : World} {base : Nat} {e : TypeId} {v : Value} {n : Nat} {xs : List Value} (h : w.ownsRow base e 1 v n xs) : lenV v = n := by
  rcases h.2 with ⟨rfl, rfl⟩ | ⟨g, cap, _, rfl, _⟩ <;> rfl
theorem shape_own {w : World} {base : Nat} {e : TypeId} {v : Value} {n : Nat} {xs : List Value} (h : w.ownsRow base e 1 v n xs) : ∃ a cap, v = .slice a n cap := by
  rcases h.2 with ⟨rfl, rfl⟩ | ⟨g, cap, _, rfl, _⟩
  · exact ⟨_, _, rfl⟩
  · exact ⟨_, _, rfl⟩

set_option maxRecDepth 100000 in
set_option maxHeartbeats 2000000 in
theorem drawWords_any (b n : Nat) (v : Value) (zs : List Int) (w0 w : World) (h : Src w b v zs.length) (hr : Rd .u8 w0 v zs) (hbel : Below w0.heap.size w0 w) (HB0 : w0.heap.size ≤ b) (hbd : ∀ z ∈ zs, 0 ≤ z ∧ z < 256) (hn : zs.length ≤ 1048576) (hn1 : 64 ≤ n) (hn2 : n ≤ 2048)
    (hne : 0 < zs.length → ∀ c, v.ownBlock = some c → c ≠ b) :
    Calls Tryd.prog 17 #[.pointer (some ⟨b, 0, none⟩), .int .i64 (n : Int)] w fun e w' => ∃ (v' : Value) (ws : List Int), e = .returned v' ∧ ws.length = n ∧ rightM ws = true ∧ w'.ownsRow w.heap.size 3 1 v' n (ws.map (Value.int .i64)) ∧ Src w' b v zs.length ∧ Below w0.heap.size w0 w' ∧ w.heap.size ≤ w'.heap.size := by
  obtain ⟨i0, hi, hz0, hz1, hzb⟩ := info_parts infoI64
  have hbw := h.lt
  have HR := hide hr
  have HBD := hide hbd
  have HNe := hide hne
  have h1 := World.ownsRow_lit (base := w.heap.size) (e := 3) (size := 1) w #[.int .i64 1, .int .i64 1] 2 (Nat.le_refl _) (by unfold maxLen; omega) rfl
  have K0 := hide (show Src (w.alloc (.cells #[.int .i64 1, .int .i64 1] 3)) b v zs.length ∧ Below w0.heap.size w0 (w.alloc (.cells #[.int .i64 1, .int .i64 1] 3)) ∧ (w.alloc (.cells #[.int .i64 1, .int .i64 1] 3)).ownsRow w.heap.size 3 1 (.slice (some ⟨w.heap.size, 0, none⟩) 2 2) 2 ([1, 1].map (Value.int .i64)) ∧ w.heap.size ≤ (w.alloc (.cells #[.int .i64 1, .int .i64 1] 3)).heap.size from
    ⟨by obtain ⟨i, x, q1, q2, q3, q4⟩ := h; exact ⟨i, x, q1, q2, q3, q4.alloc _⟩, hbel.alloc hbel.size _, by simpa using h1, by simp⟩)
  clear h hr hbel hbd hne h1
  go_enter Tryd.func17, Tryd.ntmps17
  go_wp2_with (go_at_call 18; fail)
  refine (N_any b 4 v zs _ K0.out.1 (HR.out.below K0.out.2.1) HBD.out hn (by omega) (by omega) HNe.out).mono ?_
  rintro e w1 ⟨r1, rfl, hr1, hs, hd⟩
  have K1 := hide (And.intro hs (And.intro (hd.under K0.out.2.1 HB0) (And.intro (hd.own K0.out.2.2.1 hbw) (show w.heap.size ≤ w1.heap.size from by rw [hd.2]; exact K0.out.2.2.2))))
  clear hs hd
  go_wp2
  go_loopw [5] (fun o wr => ∃ (k : Nat) (L : List Int), 2 ≤ k ∧ k ≤ n ∧ L.length = k ∧ Good L ∧ Src wr b v zs.length ∧ Below w0.heap.size w0 wr ∧ wr.ownsRow w.heap.size 3 1 o k (L.map (Value.int .i64)) ∧ w.heap.size ≤ wr.heap.size) (fun o _ => n - lenV o)
  case atStart => exact ⟨2, [1, 1], by omega, by omega, rfl, good_two, K1.out.1, K1.out.2.1, K1.out.2.2.1, K1.out.2.2.2⟩
  case round =>
    obtain ⟨k, L, hk2, hk, hl, hgood, hs, hb, hown, hle⟩ := hrel
    obtain ⟨a', cap', rfl⟩ := shape_own hown
    have K2 := hide (And.intro hs (And.intro hb (And.intro hown hle)))
    have HGood := hide hgood
    have hLk := hide hl
    clear hs hb hown hle hgood hl K1 K0
    by_cases hlt : k < n
    · have hlt' : (k : Int) < (n : Int) := by omega
      go_wp2_with (go_at_call 18; fail)
      refine (N_any b 5 v zs _ K2.out.1 (HR.out.below K2.out.2.1) HBD.out hn (by omega) (by omega) HNe.out).mono ?_
      rintro e w3 ⟨r3, rfl, hr3, hs, hd⟩
      have K3 := hide (And.intro hs (And.intro (hd.under K2.out.2.1 HB0) (And.intro (hd.own K2.out.2.2.1 hbw) (show w.heap.size ≤ w3.heap.size from by rw [hd.2]; exact K2.out.2.2.2))))
      clear hs hd
      by_cases hf : (r3 : Int) < 1 + (r1 : Int)
      · go_wp2_with (go_at_call 18; fail)
        refine (N_any b 3 v zs _ K3.out.1 (HR.out.below K3.out.2.1) HBD.out hn (by omega) (by omega) HNe.out).mono ?_
        rintro e w4 ⟨r4, rfl, hr4, hs, hd⟩
        have K4 := hide (And.intro hs (And.intro (hd.under K3.out.2.1 HB0) (And.intro (hd.own K3.out.2.2.1 hbw) (show w.heap.size ≤ w4.heap.size from by rw [hd.2]; exact K3.out.2.2.2))))
        clear hs hd
        go_wp2_with (go_at_call 31; fail)
        refine (One_any b 9 v zs _ K4.out.1 (HR.out.below K4.out.2.1) HBD.out hn (by omega) (by omega) HNe.out).mono ?_
        rintro e w5 ⟨t, rfl, hs, hd⟩
        have K5 := hide (And.intro hs (And.intro (hd.under K4.out.2.1 HB0) (And.intro (hd.own K4.out.2.2.1 hbw) (show w.heap.size ≤ w5.heap.size from by rw [hd.2]; exact K4.out.2.2.2))))
        clear hs hd
        cases t with
        | true =>
          go_wp2_with (go_at_call 18; fail)
          refine (N_any b 2 v zs _ K5.out.1 (HR.out.below K5.out.2.1) HBD.out hn (by omega) (by omega) HNe.out).mono ?_
          rintro e w6 ⟨r6, rfl, hr6, hs, hd⟩
          have K6 := hide (And.intro hs (And.intro (hd.under K5.out.2.1 HB0) (And.intro (hd.own K5.out.2.2.1 hbw) (show w.heap.size ≤ w6.heap.size from by rw [hd.2]; exact K5.out.2.2.2))))
          clear hs hd
          obtain ⟨z, hz⟩ : ∃ z : Int, z = 4294967295 - (r6 : Int) := ⟨_, rfl⟩
          have hz2 : wordB z = true := by rw [hz]; unfold wordB; simp only [Bool.and_eq_true, decide_eq_true_eq]; omega
          go_wp2_with (at_builtin; go_loud (refine wpList_append_own _ rfl (.tmp 28) (.tmp 30) 22 rfl w.heap.size 3 i0 (.int .i64 0) 1 8 Tryd.underlying22 hi hz0 hz1 hzb rfl (by decide) _ _ _ rfl (K6.out.2.2.1.alloc _) ⟨w6.heap.size, 0, none⟩ 1 1 [.int .i64 (4294967295 - (r6 : Int))] rfl rfl (cell_one_new _ _ _) (one64 _) (by unfold maxLen; omega) (by omega) (by have := K6.out.2.2.2; simp; omega) ?_); intro v1 w9 hown1 hgr1 _)
          rw [← hz] at hown1
          have HW := hide (show Src w9 b v zs.length ∧ Below w0.heap.size w0 w9 ∧ w9.ownsRow w.heap.size 3 1 v1 (k + 1) ((L ++ [z]).map (Value.int .i64)) ∧ w.heap.size ≤ w9.heap.size from by
            have hk := K6.out.2.2.2
            have hgs := hgr1.size
            simp at hgs
            have hne : ∀ j, (Value.slice a' k cap').ownBlock = some j → w.heap.size ≤ j := fun j hj => (K6.out.2.2.1.lt j hj).1
            obtain ⟨i, x, q1, q2, q3, q4⟩ := K6.out.1
            refine ⟨⟨i, x, q1, q2, q3, (hgr1.block b (by simp; omega) (fun e => by have := hne b e.symm; omega)).trans (q4.alloc _)⟩, (K6.out.2.1.alloc (by have := K6.out.2.1.size; omega) _).grown hgr1 (by have := K6.out.2.1.size; simp; omega) (fun j hj => by have := hne j hj; omega), ?_, by omega⟩
            rw [List.map_append]
            exact hown1)
          have HG2 := hide (good_snoc L z HGood.out hz2)
          clear hown1 hgr1 hz hz2
          go_roundw
          case rel => exact ⟨k + 1, L ++ [z], by omega, by omega, by simp [hLk.out], HG2.out, HW.out.1, HW.out.2.1, HW.out.2.2.1, HW.out.2.2.2⟩
          case measure => rw [lenV_own HW.out.2.2.1]; simp [lenV]; omega
        | false =>
          obtain ⟨z, hz⟩ : ∃ z : Int, z = 1 + (r4 : Int) := ⟨_, rfl⟩
          have hz2 : wordB z = true := by rw [hz]; unfold wordB; simp only [Bool.and_eq_true, decide_eq_true_eq]; omega
          go_wp2_with (at_builtin; go_loud (refine wpList_append_own _ rfl (.tmp 28) (.tmp 30) 22 rfl w.heap.size 3 i0 (.int .i64 0) 1 8 Tryd.underlying22 hi hz0 hz1 hzb rfl (by decide) _ _ _ rfl (K5.out.2.2.1.alloc _) ⟨w5.heap.size, 0, none⟩ 1 1 [.int .i64 (1 + (r4 : Int))] rfl rfl (cell_one_new _ _ _) (one64 _) (by unfold maxLen; omega) (by omega) (by have := K5.out.2.2.2; simp; omega) ?_); intro v1 w9 hown1 hgr1 _)
          rw [← hz] at hown1
          have HW := hide (show Src w9 b v zs.length ∧ Below w0.heap.size w0 w9 ∧ w9.ownsRow w.heap.size 3 1 v1 (k + 1) ((L ++ [z]).map (Value.int .i64)) ∧ w.heap.size ≤ w9.heap.size from by
            have hk := K5.out.2.2.2
            have hgs := hgr1.size
            simp at hgs
            have hne : ∀ j, (Value.slice a' k cap').ownBlock = some j → w.heap.size ≤ j := fun j hj => (K5.out.2.2.1.lt j hj).1
            obtain ⟨i, x, q1, q2, q3, q4⟩ := K5.out.1
            refine ⟨⟨i, x, q1, q2, q3, (hgr1.block b (by simp; omega) (fun e => by have := hne b e.symm; omega)).trans (q4.alloc _)⟩, (K5.out.2.1.alloc (by have := K5.out.2.1.size; omega) _).grown hgr1 (by have := K5.out.2.1.size; simp; omega) (fun j hj => by have := hne j hj; omega), ?_, by omega⟩
            rw [List.map_append]
            exact hown1)
          have HG2 := hide (good_snoc L z HGood.out hz2)
          clear hown1 hgr1 hz hz2
          go_roundw
          case rel => exact ⟨k + 1, L ++ [z], by omega, by omega, by simp [hLk.out], HG2.out, HW.out.1, HW.out.2.1, HW.out.2.2.1, HW.out.2.2.2⟩
          case measure => rw [lenV_own HW.out.2.2.1]; simp [lenV]; omega
      · go_wp2_with (go_at_call 31; fail)
        refine (One_any b 9 v zs _ K3.out.1 (HR.out.below K3.out.2.1) HBD.out hn (by omega) (by omega) HNe.out).mono ?_
        rintro e w5 ⟨t, rfl, hs, hd⟩
        have K5 := hide (And.intro hs (And.intro (hd.under K3.out.2.1 HB0) (And.intro (hd.own K3.out.2.2.1 hbw) (show w.heap.size ≤ w5.heap.size from by rw [hd.2]; exact K3.out.2.2.2))))
        clear hs hd
        cases t with
        | true =>
          go_wp2_with (go_at_call 18; fail)
          refine (N_any b 2 v zs _ K5.out.1 (HR.out.below K5.out.2.1) HBD.out hn (by omega) (by omega) HNe.out).mono ?_
          rintro e w6 ⟨r6, rfl, hr6, hs, hd⟩
          have K6 := hide (And.intro hs (And.intro (hd.under K5.out.2.1 HB0) (And.intro (hd.own K5.out.2.2.1 hbw) (show w.heap.size ≤ w6.heap.size from by rw [hd.2]; exact K5.out.2.2.2))))
          clear hs hd
          obtain ⟨z, hz⟩ : ∃ z : Int, z = 4294967295 - (r6 : Int) := ⟨_, rfl⟩
          have hz2 : wordB z = true := by rw [hz]; unfold wordB; simp only [Bool.and_eq_true, decide_eq_true_eq]; omega
          go_wp2_with (at_builtin; go_loud (refine wpList_append_own _ rfl (.tmp 28) (.tmp 30) 22 rfl w.heap.size 3 i0 (.int .i64 0) 1 8 Tryd.underlying22 hi hz0 hz1 hzb rfl (by decide) _ _ _ rfl (K6.out.2.2.1.alloc _) ⟨w6.heap.size, 0, none⟩ 1 1 [.int .i64 (4294967295 - (r6 : Int))] rfl rfl (cell_one_new _ _ _) (one64 _) (by unfold maxLen; omega) (by omega) (by have := K6.out.2.2.2; simp; omega) ?_); intro v1 w9 hown1 hgr1 _)
          rw [← hz] at hown1
          have HW := hide (show Src w9 b v zs.length ∧ Below w0.heap.size w0 w9 ∧ w9.ownsRow w.heap.size 3 1 v1 (k + 1) ((L ++ [z]).map (Value.int .i64)) ∧ w.heap.size ≤ w9.heap.size from by
            have hk := K6.out.2.2.2
            have hgs := hgr1.size
            simp at hgs
            have hne : ∀ j, (Value.slice a' k cap').ownBlock = some j → w.heap.size ≤ j := fun j hj => (K6.out.2.2.1.lt j hj).1
            obtain ⟨i, x, q1, q2, q3, q4⟩ := K6.out.1
            refine ⟨⟨i, x, q1, q2, q3, (hgr1.block b (by simp; omega) (fun e => by have := hne b e.symm; omega)).trans (q4.alloc _)⟩, (K6.out.2.1.alloc (by have := K6.out.2.1.size; omega) _).grown hgr1 (by have := K6.out.2.1.size; simp; omega) (fun j hj => by have := hne j hj; omega), ?_, by omega⟩
            rw [List.map_append]
            exact hown1)
          have HG2 := hide (good_snoc L z HGood.out hz2)
          clear hown1 hgr1 hz hz2
          go_roundw
          case rel => exact ⟨k + 1, L ++ [z], by omega, by omega, by simp [hLk.out], HG2.out, HW.out.1, HW.out.2.1, HW.out.2.2.1, HW.out.2.2.2⟩
          case measure => rw [lenV_own HW.out.2.2.1]; simp [lenV]; omega
        | false =>
          obtain ⟨z, hz⟩ : ∃ z : Int, z = 0 := ⟨_, rfl⟩
          have hz2 : wordB z = true := by rw [hz]; unfold wordB; simp only [Bool.and_eq_true, decide_eq_true_eq]; omega
          go_wp2_with (at_builtin; go_loud (refine wpList_append_own _ rfl (.tmp 28) (.tmp 30) 22 rfl w.heap.size 3 i0 (.int .i64 0) 1 8 Tryd.underlying22 hi hz0 hz1 hzb rfl (by decide) _ _ _ rfl (K5.out.2.2.1.alloc _) ⟨w5.heap.size, 0, none⟩ 1 1 [.int .i64 (0)] rfl rfl (cell_one_new _ _ _) (one64 _) (by unfold maxLen; omega) (by omega) (by have := K5.out.2.2.2; simp; omega) ?_); intro v1 w9 hown1 hgr1 _)
          rw [← hz] at hown1
          have HW := hide (show Src w9 b v zs.length ∧ Below w0.heap.size w0 w9 ∧ w9.ownsRow w.heap.size 3 1 v1 (k + 1) ((L ++ [z]).map (Value.int .i64)) ∧ w.heap.size ≤ w9.heap.size from by
            have hk := K5.out.2.2.2
            have hgs := hgr1.size
            simp at hgs
            have hne : ∀ j, (Value.slice a' k cap').ownBlock = some j → w.heap.size ≤ j := fun j hj => (K5.out.2.2.1.lt j hj).1
            obtain ⟨i, x, q1, q2, q3, q4⟩ := K5.out.1
            refine ⟨⟨i, x, q1, q2, q3, (hgr1.block b (by simp; omega) (fun e => by have := hne b e.symm; omega)).trans (q4.alloc _)⟩, (K5.out.2.1.alloc (by have := K5.out.2.1.size; omega) _).grown hgr1 (by have := K5.out.2.1.size; simp; omega) (fun j hj => by have := hne j hj; omega), ?_, by omega⟩
            rw [List.map_append]
            exact hown1)
          have HG2 := hide (good_snoc L z HGood.out hz2)
          clear hown1 hgr1 hz hz2
          go_roundw
          case rel => exact ⟨k + 1, L ++ [z], by omega, by omega, by simp [hLk.out], HG2.out, HW.out.1, HW.out.2.1, HW.out.2.2.1, HW.out.2.2.2⟩
          case measure => rw [lenV_own HW.out.2.2.1]; simp [lenV]; omega
    · have ek : k = n := by omega
      subst ek
      have hlt' : ¬ (k : Int) < (k : Int) := by omega
      go_wp2
      go_ret
      exact ⟨.slice a' k cap', rfl, L, hLk.out, good_right L HGood.out (by rw [hLk.out]; omega) (by rw [hLk.out]; omega), K2.out.2.2.1, K2.out.1, K2.out.2.1, K2.out.2.2.2⟩
end Go.Proofs.YtbgiccgfgljkbaaDoor
