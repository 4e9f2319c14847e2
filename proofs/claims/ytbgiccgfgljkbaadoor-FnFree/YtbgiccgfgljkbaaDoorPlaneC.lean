/- A plane set in a map: the program's MapPlane, the whole. -/
import Derived.Test.YtbgiccgfgljkbaaDoorPlaneB
namespace Go.Proofs.YtbgiccgfgljkbaaDoor
set_option linter.unusedVariables false
set_option linter.unusedSimpArgs false
open Go.RowKit

set_option maxRecDepth 100000 in
set_option maxHeartbeats 2000000 in
theorem implP_bad (v v2 : Value) (ws ss : List Int) (p : Int) (w : World) (h : Rd .i64 w v ws) (h2 : Rd .i64 w v2 ss) (hg : ErrT w) (hr : planeB ws p = false) :
    Calls Tryd.prog 13 #[v, .int .i64 p, v2] w fun e w' => e = .returned (.tuple #[.slice none 0 0, .int .i64 7]) ∧ Below w.heap.size w w' := by
  have hm := h.len
  unfold maxLen at hm
  have HG := hide (And.intro h (And.intro hg hr))
  have hsh : ∃ a cap, v = .slice a ws.length cap := by obtain ⟨a, cap, h1, _⟩ := h; exact ⟨a, cap, h1⟩
  obtain ⟨a, cap, rfl⟩ := hsh
  have hsh2 : ∃ a cap, v2 = .slice a ss.length cap := by obtain ⟨a, cap, h1, _⟩ := h2; exact ⟨a, cap, h1⟩
  obtain ⟨a2, cap2, rfl⟩ := hsh2
  have hb0 : Below w.heap.size w (w.alloc (.cells #[.int .i64 7, .nilIface] 53)) := (Below.refl _ _).alloc (Nat.le_refl _) _
  have K := hide (And.intro (Ck.fresh w 7 53) hb0)
  clear h h2 hg hr hb0
  go_enter Tryd.func13, Tryd.ntmps13
  go_wp2_with (go_at_call 23; fail)
  refine (mapFault_any _ ws _ (HG.out.1.below K.out.2)).mono ?_
  rintro e w1 ⟨ev, rfl, hf1, hb1⟩
  have K1 := hide (And.intro (K.out.1.below hb1) (And.intro (hf1.mono (by simp : w.heap.size + 1 ≤ _)) (And.intro (K.out.2.trans (hb1.mono K.out.2.size)) (show w.heap.size + 1 ≤ w1.heap.size from by have := hb1.size; simp at this; omega))))
  clear hf1 hb1 K
  go_wp2_with (go_at_call 27; fail)
  refine (inside_both w.heap.size (w.heap.size + 1) _ 7 true _ ev _ K1.out.1 K1.out.2.1 (by omega) K1.out.2.2.2).mono ?_
  rintro e w2 ⟨rfl, hc2, ht2⟩
  rw [Bool.true_and] at hc2
  have K2 := hide (And.intro hc2 (And.intro (ht2.under K1.out.2.2.1 (Nat.le_refl _) K1.out.2.2.1.size) (Nat.le_trans K1.out.2.2.2 ht2.1.size)))
  clear hc2 ht2 K1
  go_wp2_with (go_at_call 28; fail)
  refine (within_any w.heap.size (w.heap.size + 1) _ 7 p 0 31 _ _ K2.out.1 (by omega) K2.out.2.2).mono ?_
  rintro e w3 ⟨rfl, hc3, ht3⟩
  have hpb : (rightM ws && (decide (0 ≤ p) && decide (p ≤ 31))) = false := HG.out.2.2
  rw [hpb] at hc3
  have hb3 := ht3.under K2.out.2.1 (Nat.le_refl _) K2.out.2.1.size
  obtain ⟨e3, c3, hf3⟩ := hc3.fault
  rcases hf3 with ⟨hf3, _⟩ | ⟨_, n, hf3⟩
  · cases hf3
  obtain ⟨t', x', rfl⟩ := hf3.iface
  have K3 := hide (And.intro hf3 hb3)
  clear hf3 hb3 hc3 ht3 K2 hpb
  go_wp2_with (go_at_call 24; fail)
  refine (codeOf_any n _ 7 _ _ K3.out.1 (HG.out.2.1.below K3.out.2)).mono ?_
  rintro e w4 ⟨rfl, hb4⟩
  have B4 := hide (K3.out.2.trans (hb4.mono K3.out.2.size))
  clear hb4
  go_wp2
  go_ret2
  exact ⟨rfl, B4.out⟩

set_option maxRecDepth 100000 in
set_option maxHeartbeats 2000000 in
theorem implP_good (v v2 : Value) (ws ss : List Int) (p : Nat) (w : World) (h : Rd .i64 w v ws) (h2 : Rd .i64 w v2 ss) (hr : rightM ws = true) (hp : p < 32) :
    Calls Tryd.prog 13 #[v, .int .i64 (p : Int), v2] w fun e w' => ∃ v', e = .returned (.tuple #[v', .int .i64 (codeP ws p ss)]) ∧ w'.ownsRow w.heap.size 3 1 v' (planeM ws p ss).length ((planeM ws p ss).map (Value.int .i64)) ∧ Below w.heap.size w w' := by
  obtain ⟨hl1, hl2⟩ := right_len ws hr
  have hm2 := h2.len
  unfold maxLen at hm2
  have HG := hide (And.intro h (And.intro (right_word ws hr) hr))
  have hsh : ∃ a cap, v = .slice a ws.length cap := by obtain ⟨a, cap, h1, _⟩ := h; exact ⟨a, cap, h1⟩
  obtain ⟨a, cap, rfl⟩ := hsh
  have hb0 : Below w.heap.size w (w.alloc (.cells #[.int .i64 7, .nilIface] 53)) := (Below.refl _ _).alloc (Nat.le_refl _) _
  have K := hide (And.intro (Ck.fresh w 7 53) hb0)
  have HP := hide (show planeB ws p = true ∧ ((p : Int).toNat = p) from ⟨by simp [planeB, hr]; omega, by simp⟩)
  rcases h2.parts with ⟨a2, cap2, rfl, hlow⟩ | ⟨b2, off2, cap2, rfl, hbw2, hcell2⟩
  all_goals
    clear h h2 hr hb0
    go_enter Tryd.func13, Tryd.ntmps13
    go_wp2_with (go_at_call 23; fail)
    refine (mapFault_any _ ws _ (HG.out.1.below K.out.2)).mono ?_
    rintro e w1 ⟨ev, rfl, hf1, hb1⟩
    have K1 := hide (And.intro (K.out.1.below hb1) (And.intro (hf1.mono (by simp : w.heap.size + 1 ≤ _)) (And.intro (K.out.2.trans (hb1.mono K.out.2.size)) (show w.heap.size + 1 ≤ w1.heap.size from by have := hb1.size; simp at this; omega))))
    clear hf1 hb1 K
    go_wp2_with (go_at_call 27; fail)
    refine (inside_both w.heap.size (w.heap.size + 1) _ 7 true _ ev _ K1.out.1 K1.out.2.1 (by omega) K1.out.2.2.2).mono ?_
    rintro e w2 ⟨rfl, hc2, ht2⟩
    rw [Bool.true_and] at hc2
    have K2 := hide (And.intro hc2 (And.intro (ht2.under K1.out.2.2.1 (Nat.le_refl _) K1.out.2.2.1.size) (Nat.le_trans K1.out.2.2.2 ht2.1.size)))
    clear hc2 ht2 K1
    go_wp2_with (go_at_call 28; fail)
    refine (within_any w.heap.size (w.heap.size + 1) _ 7 p 0 31 _ _ K2.out.1 (by omega) K2.out.2.2).mono ?_
    rintro e w3 ⟨rfl, hc3, ht3⟩
    have hpb : (rightM ws && (decide ((0 : Int) ≤ p) && decide ((p : Int) ≤ 31))) = true := HP.out.1
    rw [hpb] at hc3
    have hb3 := ht3.under K2.out.2.1 (Nat.le_refl _) K2.out.2.1.size
    obtain ⟨e3, c3, hf3⟩ := hc3.fault
    rcases hf3 with ⟨_, rfl⟩ | ⟨hf3, _⟩
    case inr => cases hf3
    have K3 := hide hb3
    clear hb3 hc3 ht3 K2 hpb
    go_wp2_with (go_at_call 29; fail)
    refine (copyW_any _ ws _ (HG.out.1.below K3.out) (by omega)).mono ?_
    rintro e w4 ⟨rfl, ho4, hb4⟩
    have K4 := hide (And.intro ho4 (K3.out.trans (hb4.mono K3.out.size)))
    have hs34 := K3.out.size
    clear ho4 hb4 c3
    go_wp2
    have HB0 := hide (show wrap64 ((2 : Int) ^ p) = ((2 ^ p : Nat) : Int) from by
      have h1 : 2 ^ p < 2 ^ 32 := Nat.pow_lt_pow_right (by decide) hp
      have h2 : ((2 : Int) ^ p) = ((2 ^ p : Nat) : Int) := by simp
      rw [h2]
      generalize 2 ^ p = q at h1
      unfold wrap64
      omega)
    generalize wrap64 ((2 : Int) ^ p) = B at HB0 ⊢
    go_loopw [11] (fun i wr => ∃ k : Nat, 2 ≤ k ∧ k ≤ ws.length ∧ i = .int .i64 k ∧ wr.ownsRow w3.heap.size 3 1 (.slice (some ⟨w3.heap.size, 0, none⟩) ws.length ws.length) ws.length ((clrTo ws p k).map (Value.int .i64)) ∧ Below w.heap.size w wr) (fun i _ => ws.length - (intOf i).toNat)
    case atStart => exact ⟨2, by omega, by omega, rfl, by rw [clrTo_start]; exact K4.out.1, K4.out.2⟩
    case round =>
      obtain ⟨k, hk2, hk, rfl, hown, hb⟩ := hrel
      by_cases hlt : k < ws.length
      · obtain ⟨y, hy, hy2⟩ := HG.out.2.1 k hlt
        have hco : wr.cell? ⟨w3.heap.size, k, none⟩ = some (.int .i64 (y : Int)) := by
          rw [hown.cellAt k (by omega), List.getElem?_map, List.getElem?_eq_getElem (by rw [clrTo_len]; exact hlt)]
          have e := clrTo_get ws p k hlt
          rw [List.getD_eq_getElem?_getD, List.getElem?_eq_getElem (by rw [clrTo_len]; exact hlt), Option.getD_some, hy] at e
          rw [e]; rfl
        have hfr := hown.frozenAt k
        have hst := hown.stored k (.int .i64 (bits .andNot .i64 (y : Int) B))
        have HS := hide (show (wr.setCell ⟨w3.heap.size, k, none⟩ (.int .i64 (bits .andNot .i64 (y : Int) B))).ownsRow w3.heap.size 3 1 (.slice (some ⟨w3.heap.size, 0, none⟩) ws.length ws.length) ws.length ((clrTo ws p (k + 1)).map (Value.int .i64)) ∧ Below w.heap.size w (wr.setCell ⟨w3.heap.size, k, none⟩ (.int .i64 (bits .andNot .i64 (y : Int) B))) from by
          refine ⟨?_, hb.setCell (p := ⟨w3.heap.size, k, none⟩) hs34 _⟩
          have h1 := hst.1
          have e : bits .andNot .i64 (y : Int) B = ((clrN (natW ws k) p : Nat) : Int) := by
            rw [HB0.out, clr_i64 y p hy2 hp, show natW ws k = y from by unfold natW; rw [hy]; rfl]
          rw [e] at h1 ⊢
          rw [← List.map_set, clrTo_set ws p k hk2] at h1
          exact h1)
        clear hst hown hb hy
        go_wp2
        go_roundw
        case rel => exact ⟨k + 1, by omega, by omega, by go_num, HS.out.1, HS.out.2⟩
        case measure => simp [intOf]; omega
      · have ek : k = ws.length := by omega
        rw [clrTo_end ws ss p k ek] at hown
        have K5 := hide (And.intro hown hb)
        clear hown hb K4
        subst ek
        go_wp2
        go_loopw [45] (fun i wr => ∃ k : Nat, k ≤ ss.length ∧ i = .int .i64 k ∧ allIn ws.length ss k = true ∧ wr.ownsRow w3.heap.size 3 1 (.slice (some ⟨w3.heap.size, 0, none⟩) ws.length ws.length) ws.length ((setTo ws ss p k).map (Value.int .i64)) ∧ Below w.heap.size w wr) (fun i _ => ss.length - (intOf i).toNat)
        case atStart => exact ⟨0, by omega, rfl, rfl, K5.out.1, K5.out.2⟩
        case round =>
          obtain ⟨k, hk, rfl, hall, hown, hb⟩ := hrel
          have K6 := hide (And.intro hall (And.intro hown hb))
          clear hall hown hb K5
          by_cases hlt : k < ss.length
          · first
            | omega
            | (have ck := (K6.out.2.2.cell (p := ⟨b2, off2 + k, none⟩) hbw2).trans (hcell2 k hlt)
               cases hin : insB ws.length (ss.getD k 0) with
               | false =>
                 have HF := hide (allIn_false ws.length ss ss.length k hlt hin)
                 have HIn := hide hin
                 generalize ss.getD k 0 = z at ck HIn
                 clear hin hcell2
                 go_wp2_with (go_at_call 30; refine (isBlock_any _ _ _).mono ?_; rintro e w7 ⟨rfl, rfl⟩; rw [HIn.out])
                 go_ret2
                 refine ⟨_, by rw [show codeP ws p ss = 19 from by simp [codeP, HP.out.1, HF.out]]; rfl, ?_, K6.out.2.2⟩
                 rw [show planeM ws p ss = [] from by simp [planeM, HP.out.1, HF.out]]
                 exact World.ownsRow_nil _ _ _ _
               | true =>
                 obtain ⟨b, hbz, hb2, hbn⟩ : ∃ b : Nat, ss.getD k 0 = (b : Int) ∧ 2 ≤ b ∧ b < ws.length := by
                   unfold insB at hin
                   generalize ss.getD k 0 = z at hin
                   simp at hin
                   exact ⟨z.toNat, by omega, by omega, by omega⟩
                 obtain ⟨y, hy, hy2⟩ := HG.out.2.1 b hbn
                 have hnw : natW ws b = y := by unfold natW; rw [hy]; rfl
                 obtain ⟨x, hx1, hx2, hx3⟩ : ∃ x : Nat, (setTo ws ss p k).getD b 0 = (x : Int) ∧ x ≤ 4294967295 ∧ x ||| 2 ^ p = putN y p := by
                   rw [setTo_get ws ss p k b hb2 hbn, hnw]
                   refine ⟨_, rfl, ?_, ?_⟩
                   · unfold withN
                     split
                     · exact put_lt y p hy2 hp
                     · exact Nat.le_trans (clr_le y p) hy2
                   · unfold withN
                     split
                     · exact put_or y p
                     · exact or_put y p
                 have hco : wr.cell? ⟨w3.heap.size, b, none⟩ = some (.int .i64 (x : Int)) := by
                   rw [K6.out.2.1.cellAt b (by omega), List.getElem?_map, List.getElem?_eq_getElem (by rw [setTo_len]; exact hbn)]
                   rw [List.getD_eq_getElem?_getD, List.getElem?_eq_getElem (by rw [setTo_len]; exact hbn), Option.getD_some] at hx1
                   rw [hx1]; rfl
                 have hfr := K6.out.2.1.frozenAt b
                 have hst := K6.out.2.1.stored b (.int .i64 (bits .or .i64 (x : Int) B))
                 have HS := hide (show (wr.setCell ⟨w3.heap.size, b, none⟩ (.int .i64 (bits .or .i64 (x : Int) B))).ownsRow w3.heap.size 3 1 (.slice (some ⟨w3.heap.size, 0, none⟩) ws.length ws.length) ws.length ((setTo ws ss p (k + 1)).map (Value.int .i64)) ∧ Below w.heap.size w (wr.setCell ⟨w3.heap.size, b, none⟩ (.int .i64 (bits .or .i64 (x : Int) B))) ∧ allIn ws.length ss (k + 1) = true from by
                   refine ⟨?_, K6.out.2.2.setCell (p := ⟨w3.heap.size, b, none⟩) hs34 _, ?_⟩
                   · have h1 := hst.1
                     have e : bits .or .i64 (x : Int) B = ((putN (natW ws b) p : Nat) : Int) := by
                       rw [HB0.out, or_i64 x p hx2 hp, hnw, hx3]
                     rw [e] at h1 ⊢
                     rw [← List.map_set, setTo_set ws ss p k b hb2 hbz] at h1
                     exact h1
                   · show (allIn ws.length ss k && insB ws.length (ss.getD k 0)) = true
                     rw [K6.out.1, hin]; rfl)
                 rw [hbz] at ck hin
                 have HIn := hide hin
                 clear hst hx1 hy hnw hin hbz hx3 hcell2 K6
                 go_wp2_with (go_at_call 30; refine (isBlock_any _ _ _).mono ?_; rintro e w7 ⟨rfl, rfl⟩; rw [HIn.out])
                 go_roundw
                 case rel => exact ⟨k + 1, by omega, by go_num, HS.out.2.2, HS.out.1, HS.out.2.1⟩
                 case measure => simp [intOf]; omega)
          · have ek : k = ss.length := by omega
            subst ek
            go_wp2
            go_ret2
            refine ⟨_, by rw [show codeP ws p ss = 0 from by simp [codeP, HP.out.1, K6.out.1]]; rfl, ?_, K6.out.2.2⟩
            rw [show planeM ws p ss = setTo ws ss p ss.length from by simp [planeM, HP.out.1, K6.out.1], setTo_len]
            exact own_mono K6.out.2.1 hs34
end Go.Proofs.YtbgiccgfgljkbaaDoor
