/- The program's look at a table, and its EncodeTable. -/
import Derived.Test.YtlpapoplnacobaaDoorTabF
namespace Go.Proofs.YtlpapoplnacobaaDoor
set_option linter.unusedVariables false
set_option linter.unusedSimpArgs false
open Go.RowKit

/-- What tableFault has seen of the first k inodes. -/
def okTo (zs : List Int) (n k : Nat) : Bool := (decide (2 ≤ (n : Int)) && decide ((n : Int) ≤ 1001)) && (allRows zs k && (decide (k = 0) || zeroB (rowT zs 0)))
theorem okTo_zero (zs : List Int) (n : Nat) : okTo zs n 0 = (decide (2 ≤ (n : Int)) && decide ((n : Int) ≤ 1001)) := by
  unfold okTo allRows; simp
theorem okTo_step (zs : List Int) (n k : Nat) : ((okTo zs n k && rightL (rowT zs k)) && (decide (0 < k) || zeroB (rowT zs k))) = okTo zs n (k + 1) := by
  have ha : allRows zs (k + 1) = (allRows zs k && rightL (rowT zs k)) := by
    unfold allRows; rw [List.range_succ, List.all_append]; simp
  unfold okTo
  rw [ha]
  generalize (decide (2 ≤ (n : Int)) && decide ((n : Int) ≤ 1001)) = A
  rcases Nat.eq_zero_or_pos k with h | h
  · subst h
    have h0 : allRows zs 0 = true := rfl
    rw [h0]
    cases A <;> cases rightL (rowT zs 0) <;> cases zeroB (rowT zs 0) <;> rfl
  · have hk : decide (k = 0) = false := by simp; omega
    have hk1 : decide (k + 1 = 0) = false := by simp
    rw [hk, hk1, decide_eq_true h]
    cases A <;> cases allRows zs k <;> cases rightL (rowT zs k) <;> cases zeroB (rowT zs 0) <;> rfl
theorem row_range {w : World} {b : Nat} {r : List Int} {t : TypeId} (h : Blk w b (cellsI r) t) : w.rangeAt b 0 (r.map (Value.int .i64)) := by
  intro j v hv
  rw [h.cell (0 + j), Nat.zero_add]
  simp [cellsI] at hv ⊢
  exact hv
set_option maxRecDepth 100000 in
set_option maxHeartbeats 1000000 in
theorem tableFault_any (v : Value) (n : Nat) (zs : List Int) (code : Int) (w : World) (h : RdT w v n zs) :
    Calls Tryd.prog 28 #[v, .int .i64 code] w fun e w' => ∃ ev, e = .returned ev ∧ FaultIs w' w.heap.size (okTo zs n n) ev code ∧ Below w.heap.size w w' := by
  have hm := h.len
  have hz := h.1
  unfold maxLen at hm
  have hb0 : Below w.heap.size w (w.alloc (.cells #[.int .i64 code, .nilIface] 63)) := (Below.refl _ _).alloc (Nat.le_refl _) _
  have K0 := hide (And.intro (Ck.fresh w code 63) hb0)
  clear hb0
  rcases h.parts with ⟨a, cap, rfl, hlow⟩ | ⟨b, off, cap, rfl, hbw, hcell⟩
  all_goals
    clear h
    go_enter Tryd.func28, Tryd.ntmps28
    go_wp2_with (go_at_call 49; fail)
    refine (within_any w.heap.size (w.heap.size + 1) _ code n 2 1001 true _ K0.out.1 (by omega) (by simp)).mono ?_
    rintro e w1 ⟨rfl, hc1, ht1⟩
    rw [Bool.true_and] at hc1
    have K1 := hide (And.intro hc1 (show Below w.heap.size w w1 from K0.out.2.grown ht1.1 (by simp) (fun k e => by cases e; omega)))
    have hs1 : w.heap.size + 1 ≤ w1.heap.size := by have := ht1.1.size; simp at this; omega
    clear hc1 ht1 K0
    go_wp2
    go_loopw [15] (fun i wr => ∃ k : Nat, k ≤ n ∧ i = .int .i64 k ∧ Ck wr w.heap.size (w.heap.size + 1) code (okTo zs n k) ∧ Below w.heap.size w wr ∧ w.heap.size + 1 ≤ wr.heap.size) (fun i _ => n - (intOf i).toNat)
    case atStart => exact ⟨0, Nat.zero_le _, rfl, by rw [okTo_zero]; exact K1.out.1, K1.out.2, hs1⟩
    case round =>
      clear K1 hs1
      obtain ⟨k, hk, rfl, hck, hb1, hsr⟩ := hrel
      have HC := hide hck
      clear hck
      by_cases hlt : k < n
      · first
        | omega
        | (have hr := range_row (w := wr) (b := b) (off := off) hz hlt (fun i hi => (hb1.cell (p := ⟨b, off + i, none⟩) hbw).trans (hcell i hi))
           have hlen := rowT_len zs k n hz hlt
           have hst := okTo_step zs n k
           generalize hrw : rowT zs k = r at hr hlen hst
           have HR := hide hr
           have HN := hide hlen
           have HZ := hide (show (cellsI r).size = 24 from by rw [cellsI_size]; exact HN.out)
           have HK := hide (show Blk (wr.alloc (.cells (cellsI (List.replicate 24 0)) 44)) wr.heap.size (cellsI (List.replicate 24 0)) 44 ∧ Below wr.heap.size wr (wr.alloc (.cells (cellsI (List.replicate 24 0)) 44)) from ⟨Blk.new _ _ _, (Below.refl _ _).alloc (Nat.le_refl _) _⟩)
           have HB := hide hb1
           have HE2 := hide (fun w => eqInoL w r HN.out)
           clear hr hlen hb1 hcell hrw
           go_wp2_with (first | (refine wpList_load_mid rfl 44 _ rfl b (off + k * 24) rfl (r.map (Value.int .i64)) _ HR.out Tryd.underlying44 rfl (by rw [List.length_map, HN.out]; exact info24) ?_) | (refine wpList_store_new wr.heap.size wr rfl 44 _ _ rfl wr.heap.size (cellsI r) rfl rfl 44 (cellsI (List.replicate 24 0)) HK.out.1 (by rw [HZ.out]; exact info24) (by rw [HZ.out]; rfl) (cellsI_one _) HK.out.2 (Nat.le_refl _) ?_; intro w2 k2 b2; have K2 := hide k2; have B2 := hide b2; clear k2 b2) | (refine wpList_load_row rfl 44 _ rfl wr.heap.size rfl 44 (cellsI r) (0, 0) _ K2.out Tryd.underlying44 rfl (by rw [HZ.out]; exact info24) ?_) | (go_at_call 50; fail))
           refine (inodeFaultL r code _ HN.out).mono ?_
           rintro e w3 ⟨ev, rfl, hf3, b3⟩
           have hlt2 := K2.out.lt
           have hs23 := b3.size
           have C3 := hide ((HC.out.below B2.out).below b3)
           have K3 := hide (K2.out.below b3 K2.out.lt)
           have F3 := hide (hf3.mono (show w.heap.size + 1 ≤ w2.heap.size by omega))
           have B3 := hide ((HB.out.trans (B2.out.mono HB.out.size)).trans (b3.mono (show w.heap.size ≤ w2.heap.size by omega)))
           clear hf3 b3 HB B2 K2 HC
           go_wp2_with fail
           refine (inside_both w.heap.size (w.heap.size + 1) _ code _ _ ev _ C3.out F3.out (by omega) (by omega)).mono ?_
           rintro e w4 ⟨rfl, hc4, ht4⟩
           have K4 := hide hc4
           have B4 := hide (B3.out.grown ht4.1 B3.out.size (fun k e => by cases e; omega))
           have hs4 : w.heap.size + 1 ≤ w4.heap.size := by have := ht4.1.size; omega
           have I4 := hide (show Blk w4 wr.heap.size (cellsI r) 44 from (ht4.1.block _ K3.out.lt (by simp; omega)).trans K3.out)
           clear hc4 ht4 C3 F3 B3 K3
           by_cases hk0 : k = 0
           · subst hk0
             have HS := hide (show ((okTo zs n 0 && rightL r) && zeroB r) = okTo zs n (0 + 1) from by rw [← hst]; simp)
             clear hst
             go_wp2_with (first | (refine wpList_load_midG (by first | rfl | simp [Region.wanted, yielded]) 44 _ rfl wr.heap.size 0 rfl (r.map (Value.int .i64)) _ (row_range I4.out) Tryd.underlying44 rfl (by rw [List.length_map, HN.out]; exact info24) ?_) | (refine wpList_eqlG (by first | rfl | simp [Region.wanted, yielded]) 44 _ _ _ rfl (cellsI r) (cellsI (List.replicate 24 0)) rfl rfl guardIno (zeroB r) (HE2.out _) ?_) | (go_at_call 36; fail))
             refine (need_any w.heap.size (w.heap.size + 1) _ code _ (zeroB r) _ K4.out (by omega) hs4).mono ?_
             rintro e w5 ⟨rfl, hc5, ht5⟩
             have K5 := hide (show Ck w5 w.heap.size (w.heap.size + 1) code (okTo zs n (0 + 1)) ∧ Below w.heap.size w w5 from ⟨by rw [← HS.out]; exact hc5, B4.out.grown ht5.1 B4.out.size (fun k e => by cases e; omega)⟩)
             have hs5 : w.heap.size + 1 ≤ w5.heap.size := by have := ht5.1.size; omega
             clear hc5 ht5
             go_wp2
             go_roundw
             case rel => exact ⟨0 + 1, by omega, by go_num, K5.out.1, K5.out.2, hs5⟩
             case measure => simp [intOf]; omega
           · have HS := hide (show ((okTo zs n k && rightL r) && true) = okTo zs n (k + 1) from by rw [← hst]; simp [Nat.pos_of_ne_zero hk0])
             have hkp : (0 : Int) < (k : Int) := by omega
             clear hst
             go_wp2_with (first | (go_at_call 36; fail))
             refine (need_any w.heap.size (w.heap.size + 1) _ code _ true _ K4.out (by omega) hs4).mono ?_
             rintro e w5 ⟨rfl, hc5, ht5⟩
             have K5 := hide (show Ck w5 w.heap.size (w.heap.size + 1) code (okTo zs n (k + 1)) ∧ Below w.heap.size w w5 from ⟨by rw [← HS.out]; exact hc5, B4.out.grown ht5.1 B4.out.size (fun k e => by cases e; omega)⟩)
             have hs5 : w.heap.size + 1 ≤ w5.heap.size := by have := ht5.1.size; omega
             clear hc5 ht5
             go_wp2
             go_roundw
             case rel => exact ⟨k + 1, by omega, by go_num, K5.out.1, K5.out.2, hs5⟩
             case measure => simp [intOf]; omega)
      · have hkn : k = n := by omega
        subst hkn
        have HB := hide hb1
        obtain ⟨ev, c1, hf1⟩ := HC.out.fault
        have HF := hide (hf1.mono (show w.heap.size ≤ w.heap.size + 1 by omega))
        clear hb1 hf1
        go_wp2
        go_ret
        exact ⟨ev, rfl, HF.out, HB.out⟩
end Go.Proofs.YtlpapoplnacobaaDoor
