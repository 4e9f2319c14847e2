/- The free blocks of a map: the model's MapFree. -/
import Derived.Test.YtbgiccgfgljkbaaDoorFreeC
import Derived.Test.YtbgiccgfgljkbaaDoorPlaneD
import Derived.Test.YtbgiccgfgljkbaaDoorGrow
namespace Go.Proofs.YtbgiccgfgljkbaaDoor
set_option linter.unusedVariables false
set_option linter.unusedSimpArgs false
open Go.RowKit

def ordTo (n c k : Nat) : List Int := ((List.range k).map (ordAt n c)).map fun b : Nat => (b : Int)
theorem ordTo_succ (n c k : Nat) : ordTo n c (k + 1) = ordTo n c k ++ [((ordAt n c k : Nat) : Int)] := by simp [ordTo, List.range_succ]
theorem ordTo_len (n c k : Nat) : (ordTo n c k).length = k := by simp [ordTo]
theorem ordTo_get (n c k i : Nat) (h : i < k) : (ordTo n c k).getD i 0 = ((ordAt n c i : Nat) : Int) := by simp [ordTo, List.getD, h]

set_option maxRecDepth 100000 in
set_option maxHeartbeats 1000000 in
theorem order_any (n c : Nat) (w : World) (h2 : 2 ≤ c) (hc : c < n) (hn : n ≤ 2048) :
    Calls Tryd.prog 39 #[.int .i64 (n : Int), .int .i64 (c : Int)] w fun e w' => ∃ v', e = .returned v' ∧ w'.ownsRow w.heap.size 3 1 v' (n - 2) ((ordTo n c (n - 2)).map (Value.int .i64)) ∧ Below w.heap.size w w' := by
  obtain ⟨i0, hi, hz0, hz1, hz2⟩ := info_parts infoI64
  have h0 := empty_own w 3
  have hb0 : Below w.heap.size w (w.alloc (.cells #[] 3)) := (Below.refl _ _).alloc (Nat.le_refl _) _
  have K0 := hide (And.intro h0 hb0)
  have HS := hide (ordTo_succ n c)
  have HA := hide (show (∀ k, c + k < n → ordAt n c k = c + k) ∧ (∀ k, n ≤ c + k → ordAt n c k = c + k - n + 2) from ⟨fun k h => by unfold ordAt; rw [if_pos h], fun k h => by unfold ordAt; rw [if_neg (by omega)]⟩)
  clear h0 hb0
  go_enter Tryd.func39, Tryd.ntmps39
  go_wp2
  go_loopw [5, 6] (fun o i wr => ∃ k : Nat, c + k ≤ n ∧ i = .int .i64 ((c + k : Nat) : Int) ∧ wr.ownsRow w.heap.size 3 1 o k ((ordTo n c k).map (Value.int .i64)) ∧ Below w.heap.size w wr) (fun _ i _ => n - (intOf i).toNat)
  case atStart => exact ⟨0, by omega, rfl, K0.out.1, K0.out.2⟩
  case round =>
    obtain ⟨k, hk, rfl, hown, hb⟩ := hrel
    have K1 := hide (And.intro hown hb)
    have hsz := hb.size
    clear hown hb K0
    obtain ⟨q, hq⟩ : ∃ q : Nat, q = c + k := ⟨_, rfl⟩
    rw [← hq]
    have HQ := hide hq
    have hqk : k ≤ q := by omega
    have hq2 : q ≤ n := by omega
    clear hq hk
    by_cases hlt : q < n
    · have HO := hide (show ((ordAt n c k : Nat) : Int) = (q : Int) from by rw [HA.out.1 k (by have := HQ.out; omega), HQ.out])
      go_wp2_with (at_builtin; go_loud (refine wpList_append_own _ rfl (.tmp 15) (.tmp 17) 22 rfl w.heap.size 3 i0 (.int .i64 0) 1 8 Tryd.underlying22 hi hz0 hz1 hz2 rfl (by decide) _ _ _ rfl (K1.out.1.alloc _) ⟨wr.heap.size, 0, none⟩ 1 1 [.int .i64 (q : Int)] rfl rfl (cell_one_new _ _ _) (one64 _) (by unfold maxLen; omega) (by omega) (by simp; omega) ?_); intro v1 w9 hown1 hgr1 _)
      have HW := hide (show w9.ownsRow w.heap.size 3 1 v1 (k + 1) ((ordTo n c (k + 1)).map (Value.int .i64)) ∧ Below w.heap.size w w9 from by
        refine ⟨?_, (K1.out.2.alloc hsz _).grown hgr1 (by simp; omega) (fun r h => (K1.out.1.lt r h).1)⟩
        rw [HS.out, List.map_append, HO.out]
        exact hown1)
      clear hown1 hgr1
      go_wp2
      go_roundw
      case rel => exact ⟨k + 1, by have := HQ.out; omega, by rw [show c + (k + 1) = q + 1 from by have := HQ.out; omega]; go_num, HW.out.1, HW.out.2⟩
      case measure => simp [intOf]; omega
    · have hqn : q = n := by omega
      subst hqn
      have HK := hide (show c + k = q from HQ.out.symm)
      clear hqk hq2 hlt HQ
      rename World => wA
      go_wp2
      go_loopw [5, 7] (fun o i wr => ∃ j : Nat, 2 ≤ j ∧ j ≤ c ∧ i = .int .i64 (j : Int) ∧ wr.ownsRow w.heap.size 3 1 o (q - c + (j - 2)) ((ordTo q c (q - c + (j - 2))).map (Value.int .i64)) ∧ Below w.heap.size w wr) (fun _ i _ => c - (intOf i).toNat)
      case atStart => exact ⟨2, by omega, h2, rfl, by rw [show q - c + (2 - 2) = k from by have := HK.out; omega]; exact K1.out.1, K1.out.2⟩
      case round =>
        obtain ⟨j, hj2, hjc, rfl, hown, hb⟩ := hrel
        have K2 := hide (And.intro hown hb)
        have hsz2 := hb.size
        clear hown hb K1
        by_cases hlt : j < c
        · have HO := hide (show ((ordAt q c (q - c + (j - 2)) : Nat) : Int) = (j : Int) from by rw [HA.out.2 _ (by omega)]; omega)
          obtain ⟨z, hz⟩ : ∃ z : Nat, z = q - c + (j - 2) := ⟨_, rfl⟩
          rw [← hz] at K2 HO
          have hz2' : z ≤ 2048 := by omega
          have HZ := hide hz
          clear hz
          go_wp2_with (at_builtin; go_loud (refine wpList_append_own _ rfl (.tmp 24) (.tmp 26) 22 rfl w.heap.size 3 i0 (.int .i64 0) 1 8 Tryd.underlying22 hi hz0 hz1 hz2 rfl (by decide) _ _ _ rfl (K2.out.1.alloc _) ⟨wr.heap.size, 0, none⟩ 1 1 [.int .i64 (j : Int)] rfl rfl (cell_one_new _ _ _) (one64 _) (by unfold maxLen; omega) (by omega) (by simp; omega) ?_); intro v1 w9 hown1 hgr1 _)
          have HW := hide (show w9.ownsRow w.heap.size 3 1 v1 (z + 1) ((ordTo q c (z + 1)).map (Value.int .i64)) ∧ Below w.heap.size w w9 from by
            refine ⟨?_, (K2.out.2.alloc hsz2 _).grown hgr1 (by simp; omega) (fun r h => (K2.out.1.lt r h).1)⟩
            rw [HS.out, List.map_append, HO.out]
            exact hown1)
          clear hown1 hgr1
          go_wp2
          go_roundw
          case rel => exact ⟨j + 1, by omega, by omega, by go_num, by rw [show q - c + (j + 1 - 2) = z + 1 from by have := HZ.out; omega]; exact HW.out.1, HW.out.2⟩
          case measure => simp [intOf]; omega
        · have hjc2 : j = c := by omega
          subst hjc2
          rw [show q - j + (j - 2) = q - 2 from by omega] at K2
          go_wp2
          go_ret
          exact ⟨_, rfl, K2.out.1, K2.out.2⟩

set_option maxRecDepth 100000 in
set_option maxHeartbeats 1000000 in
theorem frees_any (v : Value) (ws : List Int) (c : Nat) (w : World) (h : Rd .i64 w v ws) (h2 : 2 ≤ c) (hc : c < ws.length) (hn : ws.length ≤ 2048) :
    Calls Tryd.prog 35 #[v, .int .i64 (c : Int)] w fun e w' => ∃ g cap', e = .returned (.slice (some ⟨g, 0, none⟩) (freesM ws c).length cap') ∧ w'.ownsRow w.heap.size 3 1 (.slice (some ⟨g, 0, none⟩) (freesM ws c).length cap') (freesM ws c).length ((freesM ws c).map (Value.int .i64)) ∧ Below w.heap.size w w' := by
  obtain ⟨i0, hi, hz0, hz1, hz2⟩ := info_parts infoI64
  have h0 := empty_own w 3
  have hb0 : Below w.heap.size w (w.alloc (.cells #[] 3)) := (Below.refl _ _).alloc (Nat.le_refl _) _
  have K0 := hide (And.intro h0 hb0)
  obtain ⟨b1, off1, cap1, rfl, hbw1, _, _, hcell1⟩ := h.partsC (by omega)
  have HC1 := hide hcell1
  have HF := hide (frees_len ws c)
  have HM := hide (show freesM ws c = freesTo ws c (ws.length - 2) from rfl)
  have HO := hide (fun i hi => ord_in ws.length c i h2 hc hi)
  clear h0 hb0 h hcell1
  go_enter Tryd.func35, Tryd.ntmps35
  go_wp2_with (go_at_call 39; fail)
  refine (order_any ws.length c _ h2 hc hn).mono ?_
  rintro e w1 ⟨v1, rfl, ho1, hb1⟩
  have K1 := hide (show w1.ownsRow w.heap.size 3 1 (.slice (some ⟨w.heap.size, 0, none⟩) 0 0) 0 [] ∧ Below w.heap.size w w1 from ⟨own_below K0.out.1 hb1, K0.out.2.trans (hb1.mono K0.out.2.size)⟩)
  obtain ⟨b2, off2, cap2, rfl, hbw2, _, _, hcell2⟩ := (Rd.own ho1).partsC (by rw [ordTo_len]; omega)
  have hlo2 : w.heap.size + 1 ≤ b2 := by have := (ho1.lt b2 rfl).1; simp at this; omega
  have HC2 := hide (show ∀ i, i < ws.length - 2 → w1.cell? ⟨b2, off2 + i, none⟩ = some (.int .i64 ((ordAt ws.length c i : Nat) : Int)) from fun i hi => by
    rw [hcell2 i (by rw [ordTo_len]; exact hi), ordTo_get _ _ _ _ hi])
  have hol : (ordTo ws.length c (ws.length - 2)).length = ws.length - 2 := ordTo_len _ _ _
  rw [hol]
  clear ho1 hb1 K0 hcell2 hol
  obtain ⟨m, hm⟩ : ∃ m : Nat, m = ws.length - 2 := ⟨_, rfl⟩
  rw [← hm] at HC2 HM ⊢
  have HMm := hide hm
  have hm2 : m ≤ 2046 := by omega
  clear hm
  go_wp2
  go_loopw [5, 14] (fun o i wr => ∃ k : Nat, k ≤ m ∧ i = .int .i64 (k : Int) ∧ wr.ownsRow w.heap.size 3 1 o (freesTo ws c k).length ((freesTo ws c k).map (Value.int .i64)) ∧ Below w.heap.size w wr ∧ (∀ i, i < m → wr.cell? ⟨b2, off2 + i, none⟩ = some (.int .i64 ((ordAt ws.length c i : Nat) : Int))) ∧ (∀ k, o.ownBlock = some k → k ≠ b2) ∧ b2 < wr.heap.size ∧ ∃ g cap', o = .slice (some ⟨g, 0, none⟩) (freesTo ws c k).length cap') (fun _ i _ => m - (intOf i).toNat)
  case atStart => exact ⟨0, by omega, rfl, K1.out.1, K1.out.2, HC2.out, fun k hk => by simp [Value.ownBlock] at hk; omega, hbw2, _, _, rfl⟩
  case round =>
    obtain ⟨k, hk, rfl, hown, hb, hcl, hne, hbs, hsome⟩ := hrel
    have HSm := hide hsome
    clear hsome
    have K2 := hide (And.intro hown (And.intro hb (And.intro hcl hne)))
    have hsz := hb.size
    have hfl := HF.out k
    clear hown hb hcl hne K1
    by_cases hlt : k < m
    · obtain ⟨ho1, ho2⟩ := HO.out k (by have := HMm.out; omega)
      have co := K2.out.2.2.1 k hlt
      have cw := (K2.out.2.1.cell (p := ⟨b1, off1 + ordAt ws.length c k, none⟩) hbw1).trans (HC1.out _ ho2)
      have HFy := hide (frees_yes ws c k)
      have HFn := hide (frees_no ws c k)
      obtain ⟨o, ho⟩ : ∃ o, o = ordAt ws.length c k := ⟨_, rfl⟩
      rw [← ho] at ho1 ho2 co cw HFy HFn
      clear ho
      by_cases hz : ws.getD o 0 = 0
      · have HF1 := hide (HFy.out hz)
        rw [hz] at cw
        clear hz HFy HFn
        generalize hfe : (freesTo ws c k).length = fl at K2 hfl
        have HL := hide hfe
        clear hfe
        go_wp2_with (at_builtin; go_loud (refine append_fresh _ rfl (.tmp 23) (.tmp 25) 22 rfl w.heap.size 3 i0 (.int .i64 0) 1 8 Tryd.underlying22 hi hz0 hz1 hz2 rfl (by decide) u5 fl _ rfl (K2.out.1.alloc _) ⟨wr.heap.size, 0, none⟩ 1 1 [.int .i64 (o : Int)] rfl rfl (cell_one_new _ _ _) (one64 _) (by decide) (by unfold maxLen; omega) (by omega) (by simp; omega) ?_); intro v1 w9 hown1 hgr1 hfr1)
        have HW := hide (show w9.ownsRow w.heap.size 3 1 v1 (freesTo ws c (k + 1)).length ((freesTo ws c (k + 1)).map (Value.int .i64)) ∧ Below w.heap.size w w9 ∧ (∀ i, i < m → w9.cell? ⟨b2, off2 + i, none⟩ = some (.int .i64 ((ordAt ws.length c i : Nat) : Int))) ∧ (∀ k, v1.ownBlock = some k → k ≠ b2) ∧ b2 < w9.heap.size from by
          have hs9 := hgr1.size
          simp at hs9
          refine ⟨?_, (K2.out.2.1.alloc hsz _).grown hgr1 (by simp; omega) (fun r h => (K2.out.1.lt r h).1), fun i hi => ?_, fun j hj e => ?_, by omega⟩
          · rw [HF1.out, List.map_append, List.length_append, show (freesTo ws c k).length = fl from HL.out]
            exact hown1
          · refine (World.cell?_of_block (a := ⟨b2, off2 + i, none⟩) ((hgr1.block b2 (by simp; omega) (fun e => K2.out.2.2.2 b2 e.symm rfl)).trans (Below.heap_alloc wr _ b2 hbs))).trans (K2.out.2.2.1 i hi)
          · rcases hfr1 j hj with h | h
            · exact K2.out.2.2.2 j h e
            · simp at h; omega)
        have HV1 := hide (show ∃ g cap', v1 = .slice (some ⟨g, 0, none⟩) (freesTo ws c (k + 1)).length cap' from by rw [HF1.out, List.length_append, show (freesTo ws c k).length = fl from HL.out]; exact ownsRow_succ hown1)
        clear hown1 hgr1 hfr1
        go_roundw
        case rel => exact ⟨k + 1, by omega, by go_num, HW.out.1, HW.out.2.1, HW.out.2.2.1, HW.out.2.2.2.1, HW.out.2.2.2.2, HV1.out⟩
        case measure => simp [intOf]; omega
      · have HF1 := hide (HFn.out hz)
        have hq : (ws.getD o 0 == 0) = false := by simpa using hz
        generalize ws.getD o 0 = z at cw hq
        clear hz HFy HFn
        go_wp2
        go_roundw
        case rel => exact ⟨k + 1, by omega, by go_num, by rw [HF1.out]; exact K2.out.1, K2.out.2.1, K2.out.2.2.1, K2.out.2.2.2, hbs, by rw [HF1.out]; exact HSm.out⟩
        case measure => simp [intOf]; omega
    · have ek : k = m := by omega
      subst ek
      go_wp2
      go_ret
      obtain ⟨g, cap', hg⟩ := HSm.out
      rw [HM.out]
      have h1 := K2.out.1
      subst hg
      exact ⟨g, cap', rfl, h1, K2.out.2.1⟩

theorem add_zero_at (g j : Nat) : (⟨g, 0, none⟩ : Addr).add j = ⟨g, j, none⟩ := by
  unfold Addr.add
  split
  · rename_i h; subst h; rfl
  · simp
theorem last_take (L : List Int) (m n : Nat) (c : Int) (h0 : 0 < m) (hm : m ≤ L.length) : lastOf n c (L.take m) = behI n (L.getD (m - 1) 0) := by
  unfold lastOf
  have : (L.take m).getLast? = some (L.getD (m - 1) 0) := by
    rw [List.getLast?_eq_getElem?, List.length_take, Nat.min_eq_left hm, List.getElem?_take, if_pos (by omega), List.getD_eq_getElem?_getD, List.getElem?_eq_getElem (by omega)]
    rfl
  rw [this]

set_option maxRecDepth 100000 in
set_option maxHeartbeats 1000000 in
theorem specF_any (v : Value) (ws : List Int) (c n : Int) (w : World) (h : Rd .i64 w v ws) :
    Calls Tryd.prog 20 #[v, .int .i64 c, .int .i64 n] w fun e w' => ∃ v', e = .returned (.tuple #[v', .int .i64 (freeK ws c n), .int .i64 (codeF ws c n)]) ∧ w'.ownsRow w.heap.size 3 1 v' (freeL ws c n).length ((freeL ws c n).map (Value.int .i64)) ∧ Below w.heap.size w w' := by
  have hm := h.len
  unfold maxLen at hm
  have HG := hide h
  have hsh : ∃ a cap, v = .slice a ws.length cap := by obtain ⟨a, cap, h1, _⟩ := h; exact ⟨a, cap, h1⟩
  obtain ⟨a, cap, rfl⟩ := hsh
  clear h
  cases hr : fbB ws c n with
  | false =>
    have HA := hide (show freeK ws c n = 0 ∧ freeL ws c n = [] ∧ codeF ws c n = 7 from ⟨by simp [freeK, okF, hr], by simp [freeL, okF, hr], by simp [codeF, hr]⟩)
    cases hM : rightM ws with
    | false =>
      have HM := hide hM
      clear hr hM
      go_enter Tryd.func20, Tryd.ntmps20
      go_wp2_with (go_at_call 21; refine (right_any _ ws _ HG.out).mono ?_; rintro e w0 ⟨rfl, hw0⟩; rw [HM.out, hw0]; clear hw0 w0)
      go_ret3
      exact ⟨_, by rw [HA.out.1, HA.out.2.2]; rfl, by rw [HA.out.2.1]; exact World.ownsRow_nil _ _ _ _, Below.refl _ _⟩
    | true =>
      have HM := hide hM
      have hq : c < 2 ∨ (¬ c < 2 ∧ (ws.length : Int) ≤ c) ∨ (¬ c < 2 ∧ ¬ (ws.length : Int) ≤ c ∧ n < 0) := by
        simp [fbB, insB, hM] at hr
        omega
      clear hr hM
      rcases hq with hq | ⟨hq1, hq2⟩ | ⟨hq1, hq2, hq3⟩
      all_goals
        go_enter Tryd.func20, Tryd.ntmps20
        go_wp2_with (go_at_call 21; refine (right_any _ ws _ HG.out).mono ?_; rintro e w0 ⟨rfl, hw0⟩; rw [HM.out, hw0]; clear hw0 w0)
        go_ret3
        exact ⟨_, by rw [HA.out.1, HA.out.2.2]; rfl, by rw [HA.out.2.1]; exact World.ownsRow_nil _ _ _ _, Below.refl _ _⟩
  | true =>
    have HR := hide hr
    have hfb := hr
    unfold fbB insB at hfb
    simp only [Bool.and_eq_true, decide_eq_true_eq] at hfb
    obtain ⟨⟨hrt, hc2, hcl⟩, hn0⟩ := hfb
    obtain ⟨hl1, hl2⟩ := right_len ws hrt
    obtain ⟨cN, rfl⟩ : ∃ k : Nat, c = (k : Int) := ⟨c.toNat, by omega⟩
    obtain ⟨m, rfl⟩ : ∃ k : Nat, n = (k : Int) := ⟨n.toNat, by omega⟩
    have HM := hide hrt
    obtain ⟨i0, hi, hz0, hz1, hz2⟩ := info_parts infoI64
    have hF : (freesM ws cN).length ≤ 2048 := by have := frees_len ws cN (ws.length - 2); unfold freesM; omega
    have hc2' : ¬ (cN : Int) < 2 := by omega
    have hcl' : ¬ (ws.length : Int) ≤ cN := by omega
    clear hr hrt
    go_enter Tryd.func20, Tryd.ntmps20
    go_wp2_with (first
      | (go_at_call 21; refine (right_any _ ws _ HG.out).mono ?_; rintro e w0 ⟨rfl, hw0⟩; rw [HM.out, hw0]; clear hw0 w0)
      | (go_at_call 35; fail))
    refine (frees_any _ ws cN _ HG.out (by omega) (by omega) hl2).mono ?_
    rintro e w1 ⟨g, cap', rfl, ho1, hb1⟩
    have K1 := hide (And.intro ho1 hb1)
    have hgl := (ho1.lt g rfl).2
    have hcap : (freesM ws cN).length ≤ cap' ∧ cap' ≤ maxLen := by
      rcases ho1.2 with ⟨h1, _⟩ | ⟨g', c', cur, e1, _, _, h3, h4, _⟩
      · cases h1
      · injection e1 with _ _ e3; subst e3; exact ⟨h3, h4⟩
    obtain ⟨hcap1, hcap2⟩ := hcap
    unfold maxLen at hcap2
    have hs1 := hb1.size
    have HCell := hide (show ∀ j, j < (freesM ws cN).length → w1.cell? ⟨g, j, none⟩ = some (.int .i64 ((freesM ws cN).getD j 0)) from fun j hj => by
      rw [ho1.cellAt j (by omega)]; simp [List.getD, hj])
    clear ho1 hb1
    by_cases hlm : (freesM ws cN).length < m
    · have HA := hide (show freeK ws cN m = 0 ∧ freeL ws cN m = [] ∧ codeF ws cN m = 9 from by
        have h1 : okF ws cN m = false := by simp [okF, HR.out]; omega
        exact ⟨by simp [freeK, h1], by simp [freeL, h1], by simp [codeF, h1, HR.out]⟩)
      have hlm' : ((freesM ws cN).length : Int) < (m : Int) := by omega
      go_wp2
      go_ret3
      exact ⟨_, by rw [HA.out.1, HA.out.2.2]; rfl, by rw [HA.out.2.1]; exact World.ownsRow_nil _ _ _ _, K1.out.2⟩
    · have HA := hide (show freeK ws cN m = lastOf ws.length cN ((freesM ws cN).take m) ∧ freeL ws cN m = (freesM ws cN).take m ∧ codeF ws cN m = 0 from by
        have h1 : okF ws cN m = true := by simp [okF, HR.out]; omega
        exact ⟨by simp [freeK, freeL, h1], by simp [freeL, h1], by simp [codeF, h1, HR.out]⟩)
      have hlm' : ¬ ((freesM ws cN).length : Int) < (m : Int) := by omega
      obtain ⟨T, hT⟩ : ∃ T, T = ((freesM ws cN).take m).map (Value.int .i64) := ⟨_, rfl⟩
      have HT := hide (show T.length = m ∧ (∀ u ∈ T, u.oneCell' = true) ∧ (∀ j u, T[j]? = some u → w1.cell? ⟨g, j, none⟩ = some u) from by
        subst hT
        refine ⟨by simp; omega, ?_, ?_⟩
        · intro u hu; rw [List.mem_map] at hu; obtain ⟨z, _, rfl⟩ := hu; rfl
        · intro j u hu
          have hj : j < m := by
            rcases Nat.lt_or_ge j m with h1 | h1
            · exact h1
            · rw [List.getElem?_eq_none (by simp; omega)] at hu; cases hu
          rw [HCell.out j (by omega)]
          rw [List.getElem?_map, List.getElem?_take, if_pos hj, List.getElem?_eq_getElem (by omega)] at hu
          rw [← hu, List.getD_eq_getElem?_getD, List.getElem?_eq_getElem (by omega)]
          rfl)
      have HTe := hide hT
      clear hT
      by_cases hm0 : 0 < m
      · have cx := HCell.out (m - 1) (by omega)
        have HLt := hide (last_take (freesM ws cN) m ws.length cN hm0 (by omega))
        generalize (freesM ws cN).getD (m - 1) 0 = x at cx HLt
        have hm0' : (0 : Int) < (m : Int) := by omega
        rw [show ((m - 1 : Nat)) = m - 1 from rfl] at cx
        go_wp2_with (first
          | (go_at_call 36; refine (specBehind_any x ws.length _ (by omega) (by omega)).mono ?_; rintro e w0 ⟨rfl, hw0⟩; rw [hw0]; clear hw0 w0)
          | (at_builtin; go_loud (refine wpList_append_own _ rfl (.tmp 44) (.tmp 47) 22 rfl w1.heap.size 3 i0 (.int .i64 0) 1 8 Tryd.underlying22 hi hz0 hz1 hz2 rfl (by decide) _ 0 [] rfl (empty_own w1 _) ⟨g, 0, none⟩ m cap' T rfl (by rw [HT.out.1, Nat.mul_one]) (fun j u hu => by rw [add_zero_at]; exact (World.cell?_alloc_lt w1 _ ⟨g, j, none⟩ hgl).trans (HT.out.2.2 j u hu)) HT.out.2.1 (by unfold maxLen; omega) (by omega) (by simp) ?_); intro v1 w9 hown1 hgr1 _))
        have HW := hide (show w9.ownsRow w.heap.size 3 1 v1 ((freesM ws cN).take m).length (((freesM ws cN).take m).map (Value.int .i64)) ∧ Below w.heap.size w w9 from by
          refine ⟨?_, (K1.out.2.alloc hs1 _).grown hgr1 (by simp; omega) (fun k hk => Nat.le_trans hs1 ((empty_own w1 3).lt k hk).1)⟩
          rw [← HTe.out, show ((freesM ws cN).take m).length = 0 + m from by simp; omega]
          exact own_mono hown1 hs1)
        clear hown1 hgr1
        go_wp2
        go_ret3
        exact ⟨_, by rw [HA.out.1, HLt.out, HA.out.2.2]; rfl, by rw [HA.out.2.1]; exact HW.out.1, HW.out.2⟩
      · have hm0' : ¬ (0 : Int) < (m : Int) := by omega
        have HLt := hide (show lastOf ws.length cN ((freesM ws cN).take m) = cN from by rw [show m = 0 from by omega]; rfl)
        go_wp2_with (at_builtin; go_loud (refine wpList_append_own _ rfl (.tmp 44) (.tmp 47) 22 rfl w1.heap.size 3 i0 (.int .i64 0) 1 8 Tryd.underlying22 hi hz0 hz1 hz2 rfl (by decide) _ 0 [] rfl (empty_own w1 _) ⟨g, 0, none⟩ m cap' T rfl (by rw [HT.out.1, Nat.mul_one]) (fun j u hu => by rw [add_zero_at]; exact (World.cell?_alloc_lt w1 _ ⟨g, j, none⟩ hgl).trans (HT.out.2.2 j u hu)) HT.out.2.1 (by unfold maxLen; omega) (by omega) (by simp) ?_); intro v1 w9 hown1 hgr1 _)
        have HW := hide (show w9.ownsRow w.heap.size 3 1 v1 ((freesM ws cN).take m).length (((freesM ws cN).take m).map (Value.int .i64)) ∧ Below w.heap.size w w9 from by
          refine ⟨?_, (K1.out.2.alloc hs1 _).grown hgr1 (by simp; omega) (fun k hk => Nat.le_trans hs1 ((empty_own w1 3).lt k hk).1)⟩
          rw [← HTe.out, show ((freesM ws cN).take m).length = 0 + m from by simp; omega]
          exact own_mono hown1 hs1)
        clear hown1 hgr1
        go_wp2
        go_ret3
        exact ⟨_, by rw [HA.out.1, HLt.out, HA.out.2.2]; rfl, by rw [HA.out.2.1]; exact HW.out.1, HW.out.2⟩
end Go.Proofs.YtbgiccgfgljkbaaDoor
