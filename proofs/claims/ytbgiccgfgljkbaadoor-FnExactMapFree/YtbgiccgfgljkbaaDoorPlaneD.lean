/- A plane set in a map: the model's MapPlane. -/
import Derived.Test.YtbgiccgfgljkbaaDoorPlaneB
import Derived.Maps.AppendAt
namespace Go.Proofs.YtbgiccgfgljkbaaDoor
set_option linter.unusedVariables false
set_option linter.unusedSimpArgs false
open Go.RowKit

theorem with_num (y p : Nat) (i : Bool) (hy : y ≤ 4294967295) (hp : p < 32) : wrap64 ((y : Int) + wrap64 (((if i then 1 else 0) - (bitN y p : Int)) * wrap64 ((2 : Int) ^ p))) = (withN y p i : Int) ∧ ((if i then (1 : Int) else 0) - (bitN y p : Int)).natAbs ≤ 1 := by
  have hs := (split_bit y p).2
  have hb := bitN_lt y p
  have h1 : 2 ^ p < 2 ^ 32 := Nat.pow_lt_pow_right (by decide) hp
  have h2 : ((2 : Int) ^ p) = ((2 ^ p : Nat) : Int) := by simp
  have hc := clr_le y p
  rw [h2]
  unfold withN putN
  generalize 2 ^ p = q at *
  generalize clrN y p = c at *
  rcases (show bitN y p = 0 ∨ bitN y p = 1 by omega) with h | h <;> rw [h] at hs ⊢ <;> cases i <;> unfold wrap64 <;> simp at * <;> omega

set_option maxHeartbeats 400000 in
theorem with_any (y p : Nat) (i : Bool) (w : World) (hy : y ≤ 4294967295) (hp : p < 32) :
    Calls Tryd.prog 26 #[.int .i64 (y : Int), .int .i64 (p : Int), .int .i64 (if i then 1 else 0)] w fun e w' => e = .returned (.int .i64 (withN y p i : Nat)) ∧ ∃ n, w' = w.drewN n := by
  have HW := hide (with_num y p i hy hp).1
  have hbl := bitN_lt y p
  have HB := hide (bit_any y p)
  generalize bitN y p = q at HW HB hbl
  cases i
  all_goals
    simp only [if_true, if_false, Bool.false_eq_true] at HW ⊢
    go_enter Tryd.func26, Tryd.ntmps26
    go_wp2
    go_quiet ((go_at_call 22; exact Calls.quiet_of_same (HB.out _ hy hp)))
    go_wp2
    go_ret
    exact ⟨ret_int (by first | exact HW.out | (have h := HW.out; simp at h ⊢; exact h)), _, rfl⟩
theorem with_below (y p : Nat) (i : Bool) (x : Int) (w : World) (hy : y ≤ 4294967295) (hp : p < 32) (hx : x = if i then 1 else 0) :
    Calls Tryd.prog 26 #[.int .i64 (y : Int), .int .i64 (p : Int), .int .i64 x] w fun e w' => e = .returned (.int .i64 (withN y p i : Nat)) ∧ Below w.heap.size w w' := by
  subst hx
  refine (with_any y p i w hy hp).mono ?_
  rintro e w' ⟨rfl, n, rfl⟩
  exact ⟨rfl, below_drewN (Below.refl _ _) n⟩

def outAt (ws ss : List Int) (p k : Nat) : Int := if 2 ≤ k then (withN (natW ws k) p (hasTo ss k ss.length) : Int) else ws.getD k 0
def outTo (ws ss : List Int) (p n : Nat) : List Int := (List.range n).map (outAt ws ss p)
theorem outTo_succ (ws ss : List Int) (p n : Nat) : outTo ws ss p (n + 1) = outTo ws ss p n ++ [outAt ws ss p n] := by simp [outTo, List.range_succ]
theorem outTo_all (ws ss : List Int) (p : Nat) : outTo ws ss p ws.length = setTo ws ss p ss.length := rfl
theorem empty_own (w : World) (e : TypeId) : (w.alloc (.cells #[] e)).ownsRow w.heap.size e 1 (.slice (some ⟨w.heap.size, 0, none⟩) 0 0) 0 [] := by
  have h := World.ownsRow_lit (base := w.heap.size) (e := e) (size := 1) w #[] 0 (Nat.le_refl _) (by simp) rfl
  simpa using h
theorem inTo_start_map (n : Nat) (ss : List Int) : (inTo n ss 0).map (Value.int .i64) = List.replicate n (.int .i64 0) := by
  rw [inTo_start, List.map_replicate]
theorem one64 (z : Int) : ∀ u ∈ [Value.int .i64 z], u.oneCell' = true := by
  intro u hu
  rw [List.mem_singleton] at hu
  subst hu
  rfl

set_option maxRecDepth 100000 in
set_option maxHeartbeats 1000000 in
theorem specP_bad (v v2 : Value) (ws ss : List Int) (p : Int) (w : World) (h : Rd .i64 w v ws) (h2 : Rd .i64 w v2 ss) (hr : planeB ws p = false) :
    Calls Tryd.prog 12 #[v, .int .i64 p, v2] w fun e w' => e = .returned (.tuple #[.slice none 0 0, .int .i64 7]) ∧ Below w.heap.size w w' := by
  have hm := h.len
  unfold maxLen at hm
  have HG := hide h
  have hsh : ∃ a cap, v = .slice a ws.length cap := by obtain ⟨a, cap, h1, _⟩ := h; exact ⟨a, cap, h1⟩
  obtain ⟨a, cap, rfl⟩ := hsh
  have hsh2 : ∃ a cap, v2 = .slice a ss.length cap := by obtain ⟨a, cap, h1, _⟩ := h2; exact ⟨a, cap, h1⟩
  obtain ⟨a2, cap2, rfl⟩ := hsh2
  unfold planeB at hr
  clear h h2
  cases hM : rightM ws with
  | false =>
    have HM := hide hM
    clear hr hM
    go_enter Tryd.func12, Tryd.ntmps12
    go_wp2_with (go_at_call 21; refine (right_any _ ws _ HG.out).mono ?_; rintro e w1 ⟨rfl, rfl⟩; rw [HM.out])
    go_ret2
    exact ⟨rfl, Below.refl _ _⟩
  | true =>
    have HM := hide hM
    rw [hM] at hr
    have hq : p < 0 ∨ 31 < p := by simp at hr; omega
    clear hr hM
    rcases hq with hq | hq
    · go_enter Tryd.func12, Tryd.ntmps12
      go_wp2_with (go_at_call 21; refine (right_any _ ws _ HG.out).mono ?_; rintro e w1 ⟨rfl, rfl⟩; rw [HM.out])
      go_ret2
      exact ⟨rfl, Below.refl _ _⟩
    · have hq0 : ¬ p < 0 := by omega
      go_enter Tryd.func12, Tryd.ntmps12
      go_wp2_with (go_at_call 21; refine (right_any _ ws _ HG.out).mono ?_; rintro e w1 ⟨rfl, rfl⟩; rw [HM.out])
      go_ret2
      exact ⟨rfl, Below.refl _ _⟩

set_option maxRecDepth 100000 in
set_option maxHeartbeats 2000000 in
theorem specP_good (v v2 : Value) (ws ss : List Int) (p : Nat) (w : World) (h : Rd .i64 w v ws) (h2 : Rd .i64 w v2 ss) (hr : rightM ws = true) (hp : p < 32) :
    Calls Tryd.prog 12 #[v, .int .i64 (p : Int), v2] w fun e w' => ∃ v', e = .returned (.tuple #[v', .int .i64 (codeP ws p ss)]) ∧ w'.ownsRow w.heap.size 3 1 v' (planeM ws p ss).length ((planeM ws p ss).map (Value.int .i64)) ∧ Below w.heap.size w w' := by
  obtain ⟨i0, hi, hz0, hz1, hz2⟩ := info_parts infoI64
  obtain ⟨hl1, hl2⟩ := right_len ws hr
  have hm2 := h2.len
  unfold maxLen at hm2
  have HG := hide (And.intro h (And.intro (right_word ws hr) hr))
  obtain ⟨b1, off1, cap1, rfl, hbw1, _, _, hcell1⟩ := h.partsC (by omega)
  have HC1 := hide hcell1
  have HP := hide (show planeB ws p = true ∧ ((p : Int).toNat = p) from ⟨by simp [planeB, hr]; omega, by simp⟩)
  rcases h2.parts with ⟨a2, cap2, rfl, hlow⟩ | ⟨b2, off2, cap2, rfl, hbw2, hcell2⟩
  all_goals
    clear h h2 hr hcell1
    go_enter Tryd.func12, Tryd.ntmps12
    go_wp2_with (first
      | (go_at_call 21; refine (right_any _ ws _ HG.out.1).mono ?_; rintro e w0 ⟨rfl, hw0⟩; rw [HG.out.2.2, hw0]; clear hw0 w0)
      | (refine wpList_make_full _ rfl (.tmp 26) (.tmp 26) 22 rfl w.heap.size 3 i0 (.int .i64 0) 1 Tryd.underlying22 hi hz0 hz1 .i64 .i64 ws.length ws.length ws.length rfl rfl rfl rfl (by rw [hz2]; omega) (by unfold maxLen; omega) (Nat.le_refl _) ?_; intro w1 hown hgrow; rw [made_one _ _ rfl] at hown))
    have HB1 := hide (show Below w.heap.size w w1 from (Below.refl _ _).grown hgrow (Nat.le_refl _) (fun k h => by cases h))
    rw [← inTo_start_map ws.length ss] at hown
    have K1 := hide hown
    clear hown hgrow
    go_loopw [30] (fun i wr => ∃ k : Nat, k ≤ ss.length ∧ i = .int .i64 k ∧ allIn ws.length ss k = true ∧ wr.ownsRow w.heap.size 3 1 (.slice (some ⟨w.heap.size, 0, none⟩) ws.length ws.length) ws.length ((inTo ws.length ss k).map (Value.int .i64)) ∧ Below w.heap.size w wr) (fun i _ => ss.length - (intOf i).toNat)
    case atStart => exact ⟨0, by omega, rfl, rfl, K1.out, HB1.out⟩
    case round =>
      obtain ⟨k, hk, rfl, hall, hown, hb⟩ := hrel
      have K6 := hide (And.intro hall (And.intro hown hb))
      clear hall hown hb K1 HB1
      by_cases hlt : k < ss.length
      · first
        | omega
        | (have ck := (K6.out.2.2.cell (p := ⟨b2, off2 + k, none⟩) hbw2).trans (hcell2 k hlt)
           cases hin : insB ws.length (ss.getD k 0) with
           | false =>
             have HF := hide (allIn_false ws.length ss ss.length k hlt hin)
             generalize ss.getD k 0 = z at ck hin
             have hq : z < 2 ∨ (ws.length : Int) ≤ z := by simp [insB] at hin; omega
             clear hin hcell2
             by_cases hz : z < 2
             all_goals
               go_wp2
               go_ret2
               refine ⟨_, by rw [show codeP ws p ss = 19 from by simp [codeP, HP.out.1, HF.out]]; rfl, ?_, K6.out.2.2⟩
               rw [show planeM ws p ss = [] from by simp [planeM, HP.out.1, HF.out]]
               exact World.ownsRow_nil _ _ _ _
           | true =>
             obtain ⟨b, hbz, hb2, hbn⟩ : ∃ b : Nat, ss.getD k 0 = (b : Int) ∧ 2 ≤ b ∧ b < ws.length := by
               unfold insB at hin
               generalize ss.getD k 0 = z at hin
               simp at hin
               exact ⟨z.toNat, by omega, by omega, by omega⟩
             obtain ⟨old, hco⟩ : ∃ u, wr.cell? ⟨w.heap.size, b, none⟩ = some u := by
               rw [K6.out.2.1.cellAt b (by omega)]
               exact ⟨_, List.getElem?_eq_getElem (by simp [inTo_len]; omega)⟩
             have hfr := K6.out.2.1.frozenAt b
             have hst := K6.out.2.1.stored b (.int .i64 1)
             have HS := hide (show (wr.setCell ⟨w.heap.size, b, none⟩ (.int .i64 1)).ownsRow w.heap.size 3 1 (.slice (some ⟨w.heap.size, 0, none⟩) ws.length ws.length) ws.length ((inTo ws.length ss (k + 1)).map (Value.int .i64)) ∧ Below w.heap.size w (wr.setCell ⟨w.heap.size, b, none⟩ (.int .i64 1)) ∧ allIn ws.length ss (k + 1) = true from by
               refine ⟨?_, K6.out.2.2.setCell (p := ⟨w.heap.size, b, none⟩) (Nat.le_refl _) _, ?_⟩
               · have h1 := hst.1
                 rw [← List.map_set, inTo_set ws.length ss k b hbz] at h1
                 exact h1
               · show (allIn ws.length ss k && insB ws.length (ss.getD k 0)) = true
                 rw [K6.out.1, hin]; rfl)
             rw [hbz] at ck
             clear hst hin hbz hcell2 K6
             go_wp2
             go_roundw
             case rel => exact ⟨k + 1, by omega, by go_num, HS.out.2.2, HS.out.1, HS.out.2.1⟩
             case measure => simp [intOf]; omega)
      · have ek : k = ss.length := by omega
        subst ek
        rename World => wA
        have h0 := empty_own wA 3
        have hb0 : Below wA.heap.size wA (wA.alloc (.cells #[] 3)) := (Below.refl _ _).alloc (Nat.le_refl _) _
        have HD := hide (show codeP ws p ss = 0 ∧ planeM ws p ss = outTo ws ss p ws.length from ⟨by simp [codeP, HP.out.1, K6.out.1], by rw [outTo_all]; simp [planeM, HP.out.1, K6.out.1]⟩)
        have hsz := (K6.out.2.1.lt w.heap.size rfl).2
        have K7 := hide (And.intro h0 hb0)
        clear h0 hb0
        go_wp2
        go_loopw [11, 49] (fun o i wq => ∃ k : Nat, k ≤ ws.length ∧ i = .int .i64 k ∧ wq.ownsRow wA.heap.size 3 1 o k ((outTo ws ss p k).map (Value.int .i64)) ∧ Below wA.heap.size wA wq) (fun _ i _ => ws.length - (intOf i).toNat)
        case atStart => exact ⟨0, by omega, rfl, K7.out.1, K7.out.2⟩
        case round =>
          obtain ⟨k, hk, rfl, hown, hb⟩ := hrel
          have K8 := hide (And.intro hown hb)
          clear hown hb K7
          by_cases hlt : k < ws.length
          · obtain ⟨y, hy, hy2⟩ := HG.out.2.1 k hlt
            have ck := ((K6.out.2.2.trans (K8.out.2.mono K6.out.2.2.size)).cell (p := ⟨b1, off1 + k, none⟩) hbw1).trans (HC1.out k hlt)
            rw [hy] at ck
            have ci := (K8.out.2.cell (p := ⟨w.heap.size, k, none⟩) hsz).trans (K6.out.2.1.cellAt k (by omega))
            have HS := hide (outTo_succ ws ss p k)
            have hmk : ((inTo ws.length ss ss.length).map (Value.int .i64))[k]? = some (.int .i64 (if hasTo ss k ss.length then 1 else 0)) := by
              have e := inTo_get ws.length ss ss.length k hlt
              rw [List.getD_eq_getElem?_getD, List.getElem?_eq_getElem (by rw [inTo_len]; exact hlt), Option.getD_some] at e
              rw [List.getElem?_map, List.getElem?_eq_getElem (by rw [inTo_len]; exact hlt), e]; rfl
            rw [hmk] at ci
            have HA := hide (show ∀ x : Nat, (2 ≤ k → x = withN y p (hasTo ss k ss.length)) → (¬ 2 ≤ k → x = y) → outAt ws ss p k = (x : Int) from fun x h1 h2 => by
              unfold outAt natW
              by_cases e : 2 ≤ k
              · rw [if_pos e, hy, h1 e]; rfl
              · rw [if_neg e, hy, h2 e])
            obtain ⟨x, hx⟩ : ∃ x : Int, x = if hasTo ss k ss.length then 1 else 0 := ⟨_, rfl⟩
            rw [← hx] at ci
            have HX := hide hx
            generalize hasTo ss k ss.length = m at HA HX
            have hkk := K8.out.2.size
            clear hmk hx hy
            by_cases hk2 : 2 ≤ k
            · obtain ⟨r, hr⟩ : ∃ r : Nat, r = withN y p m := ⟨_, rfl⟩
              have HR := hide (show outAt ws ss p k = (r : Int) from HA.out r (fun _ => hr) (fun h => absurd hk2 h))
              have HC := hide (fun W => with_below y p m x W hy2 hp HX.out)
              rw [← hr] at HC
              clear hr HA
              go_wp2_with (go_at_call 26; fail)
              refine (HC.out _).mono ?_
              rintro e w8 ⟨rfl, hb8⟩
              have K9 := hide (And.intro (own_below K8.out.1 hb8) (K8.out.2.trans (hb8.mono K8.out.2.size)))
              have hkk2 := Nat.le_trans hkk hb8.size
              clear hb8 ck ci
              go_wp2_with (at_builtin; refine wpList_append_own _ rfl (.tmp 63) (.tmp 65) 22 rfl wA.heap.size 3 i0 (.int .i64 0) 1 8 Tryd.underlying22 hi hz0 hz1 hz2 rfl (by decide) _ _ _ rfl (K9.out.1.alloc _) ⟨w8.heap.size, 0, none⟩ 1 1 [.int .i64 (r : Int)] rfl rfl (cell_one_new _ _ _) (one64 _) (by unfold maxLen; omega) (by omega) (by simp; omega) ?_; intro v1 w9 hown1 hgr1 _)
              have HW := hide (show w9.ownsRow wA.heap.size 3 1 v1 (k + 1) ((outTo ws ss p (k + 1)).map (Value.int .i64)) ∧ Below wA.heap.size wA w9 from by
                refine ⟨?_, (K9.out.2.alloc hkk2 _).grown hgr1 (by simp; omega) (fun r h => (K9.out.1.lt r h).1)⟩
                rw [HS.out, List.map_append, HR.out]
                exact hown1)
              clear hown1 hgr1
              go_roundw
              case rel => exact ⟨k + 1, by omega, by go_num, HW.out.1, HW.out.2⟩
              case measure => simp [intOf]; omega
            · have HR := hide (show outAt ws ss p k = (y : Int) from HA.out y (fun h => absurd h hk2) (fun _ => rfl))
              clear HA
              go_wp2_with (at_builtin; refine wpList_append_own _ rfl (.tmp 63) (.tmp 65) 22 rfl wA.heap.size 3 i0 (.int .i64 0) 1 8 Tryd.underlying22 hi hz0 hz1 hz2 rfl (by decide) _ _ _ rfl (K8.out.1.alloc _) ⟨wr.heap.size, 0, none⟩ 1 1 [.int .i64 (y : Int)] rfl rfl (cell_one_new _ _ _) (one64 _) (by unfold maxLen; omega) (by omega) (by simp; omega) ?_; intro v1 w9 hown1 hgr1 _)
              have HW := hide (show w9.ownsRow wA.heap.size 3 1 v1 (k + 1) ((outTo ws ss p (k + 1)).map (Value.int .i64)) ∧ Below wA.heap.size wA w9 from by
                refine ⟨?_, (K8.out.2.alloc hkk _).grown hgr1 (by simp; omega) (fun r h => (K8.out.1.lt r h).1)⟩
                rw [HS.out, List.map_append, HR.out]
                exact hown1)
              clear hown1 hgr1
              go_roundw
              case rel => exact ⟨k + 1, by omega, by go_num, HW.out.1, HW.out.2⟩
              case measure => simp [intOf]; omega
          · have ek : k = ws.length := by omega
            subst ek
            go_wp2
            go_ret2
            refine ⟨_, by rw [HD.out.1]; rfl, ?_, K6.out.2.2.trans (K8.out.2.mono K6.out.2.2.size)⟩
            rw [HD.out.2, show (outTo ws ss p ws.length).length = ws.length from by simp [outTo]]
            exact own_mono K8.out.1 (Nat.le_of_lt hsz)
end Go.Proofs.YtbgiccgfgljkbaaDoor
