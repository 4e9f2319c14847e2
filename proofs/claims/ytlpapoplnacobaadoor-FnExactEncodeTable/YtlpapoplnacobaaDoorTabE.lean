/- The model's EncodeTable, whole. -/
import Derived.Test.YtlpapoplnacobaaDoorTabC
namespace Go.Proofs.YtlpapoplnacobaaDoor
set_option linter.unusedVariables false
set_option linter.unusedSimpArgs false
open Go.RowKit

theorem allRows_step {zs : List Int} {k : Nat} (h : allRows zs k = true) (hr : rightL (rowT zs k) = true) : allRows zs (k + 1) = true := by
  unfold allRows at h ⊢
  rw [List.range_succ, List.all_append, h]
  simp [hr]
theorem allRows_not {zs : List Int} {n k : Nat} (hk : k < n) (hr : rightL (rowT zs k) = false) : allRows zs n = false := by
  cases h : allRows zs n with
  | false => rfl
  | true => rw [allRows_at h hk] at hr; cases hr
theorem wpList_neqG {P : Program} {ops : Array Oper} {rest : List Oper} {o : Oper} {a : Act} {w : World} {Q : Exit → Act → World → Prop} (hw : Region.wanted o (yielded ops a.tmps) = true) (t u : TypeId) (x y : Operand) (ho : o.op = .binOp .neq t x y u)
    (cs ds : Array Value) (hx : a.eval x = .agg cs) (hy : a.eval y = .agg ds) (hm : P.eqGuardType P.depth t = false) (b : Bool) (hE : (Op.equalIn 10000 t (.agg cs) (.agg ds)).run P w = .ok b w)
    (h : wpList P ops Q rest (a.put o.dst (.bool (!b))) w) : wpList P ops Q (o :: rest) a w := by
  refine Go.BigFrame.wpList_want hw fun K hK => ?_
  have hrun : (execOp a.eval o).run P w = .ok (.value (.bool (!b))) w := by
    simp [execOp, ho, hx, hy, run_eqGuard_agg w _ _ _ _ _ _ hm, run_neq_struct, hE, Result.andThen]
  unfold Oper.wp
  rw [hrun, Oper.upon_value]
  exact hK _ _ h
theorem codeTab_not {zs : List Int} {n : Nat} (h : okTab zs n = false) : codeTab zs n = 7 ∧ encTab zs n = [] := by
  unfold codeTab encTab; rw [h]; exact ⟨rfl, rfl⟩
theorem own_none {w : World} {base : Nat} {zs : List Int} {n : Nat} (h : okTab zs n = false) : w.ownsRow base 5 1 (.slice none 0 0) (encTab zs n).length ((encTab zs n).map (Value.int .u8)) := by
  rw [(codeTab_not h).2]
  exact World.ownsRow_nil _ _ _ _
set_option maxRecDepth 100000 in
set_option maxHeartbeats 1000000 in
theorem specTab_any (v : Value) (n : Nat) (zs : List Int) (w : World) (h : RdT w v n zs) :
    Calls Tryd.prog 7 #[v] w fun e w' => ∃ v', e = .returned (.tuple #[v', .int .i64 (codeTab zs n)]) ∧ w'.ownsRow w.heap.size 5 1 v' (encTab zs n).length ((encTab zs n).map (Value.int .u8)) ∧ Below w.heap.size w w' := by
  have HX := hide h
  have hm := h.len
  have hz := h.1
  unfold maxLen at hm
  rcases h.parts with ⟨a, cap, rfl, hlow⟩ | ⟨b, off, cap, rfl, hbw, hcell⟩
  all_goals
    clear h
    go_enter Tryd.func7, Tryd.ntmps7
    go_wp2
    go_loopw [8] (fun i wr => ∃ k : Nat, k ≤ n ∧ i = .int .i64 k ∧ allRows zs k = true ∧ Below w.heap.size w wr) (fun i _ => n - (intOf i).toNat)
    case atStart => exact ⟨0, Nat.zero_le _, rfl, rfl, Below.refl _ _⟩
    case round =>
      obtain ⟨k, hk, rfl, hal, hb1⟩ := hrel
      have HA := hide hal
      clear hal
      by_cases hlt : k < n
      · first
        | omega
        | (have hr := range_row (w := wr) (b := b) (off := off) hz hlt (fun i hi => (hb1.cell (p := ⟨b, off + i, none⟩) hbw).trans (hcell i hi))
           have hlen := rowT_len zs k n hz hlt
           have HS := hide (fun h => allRows_step HA.out (show rightL (rowT zs k) = true from h))
           have HNo := hide (fun h => allRows_not hlt (show rightL (rowT zs k) = false from h))
           generalize rowT zs k = r at hr hlen HS HNo
           have HR := hide hr
           have HN := hide hlen
           have HZ := hide (show (cellsI r).size = 24 from by rw [cellsI_size]; exact HN.out)
           have HK := hide (show Blk (wr.alloc (.cells (cellsI (List.replicate 24 0)) 44)) wr.heap.size (cellsI (List.replicate 24 0)) 44 ∧ Below w.heap.size w (wr.alloc (.cells (cellsI (List.replicate 24 0)) 44)) from ⟨Blk.new _ _ _, hb1.alloc hb1.size _⟩)
           have hBs := hb1.size
           clear hr hlen hb1 hcell
           go_wp2_with (first | (refine wpList_load_mid rfl 44 _ rfl b (off + k * 24) rfl (r.map (Value.int .i64)) _ HR.out Tryd.underlying44 rfl (by rw [List.length_map, HN.out]; exact info24) ?_) | (refine wpList_store_new w.heap.size w rfl 44 _ _ rfl wr.heap.size (cellsI r) rfl rfl 44 (cellsI (List.replicate 24 0)) HK.out.1 (by rw [HZ.out]; exact info24) (by rw [HZ.out]; rfl) (cellsI_one _) HK.out.2 hBs ?_; intro w2 k2 b2; have K2 := hide k2; have B2 := hide b2; clear k2 b2) | (refine wpList_load_row rfl 44 _ rfl wr.heap.size rfl 44 (cellsI r) (0, 0) _ K2.out Tryd.underlying44 rfl (by rw [HZ.out]; exact info24) ?_) | (go_at_call 23; fail))
           refine (l02InodeL r _ HN.out).mono ?_
           rintro e w3 ⟨rfl, b3⟩
           have B3 := hide (B2.out.trans (b3.mono B2.out.size))
           clear b3 B2 K2
           cases hrr : rightL r with
           | false =>
             have HO := hide (show okTab zs n = false from by unfold okTab; rw [HNo.out hrr, Bool.false_and])
             clear hrr
             go_wp2
             go_ret2
             rw [(codeTab_not HO.out).1]
             exact ⟨_, rfl, own_none HO.out, B3.out⟩
           | true =>
             have HA2 := hide (HS.out hrr)
             clear hrr
             go_wp2
             go_roundw
             case rel => exact ⟨k + 1, by omega, by go_num, HA2.out, B3.out⟩
             case measure => simp [intOf]; omega)
      · have hkn : k = n := by omega
        subst hkn
        have HB := hide hb1
        clear hb1
        by_cases hk0 : k = 0
        · subst hk0
          have HO := hide (show okTab zs 0 = decide (lastT zs 0 ≤ 1000) from by unfold okTab; rw [HA.out, Bool.true_and, show zeroB (rowO zs 0 0) = true from rfl, Bool.true_and])
          have HL1 := hide (show lastT zs 0 = 1 from rfl)
          go_wp2_with (go_at_call 24; fail)
          refine (l05Last_any _ 0 zs _ (HX.out.below HB.out)).mono ?_
          rintro e w1 ⟨rfl, b1⟩
          rw [HL1.out]
          have B1 := hide (HB.out.trans (b1.mono HB.out.size))
          clear b1
          go_wp2_with (go_at_call 25; fail)
          refine (l05Bytes_any _ 0 zs _ (HX.out.below B1.out) HA.out (by rw [HL1.out]; omega)).mono ?_
          rintro e w2 ⟨v2, rfl, o2, b2⟩
          have HE := hide (show okTab zs 0 = true from by rw [HO.out, HL1.out]; rfl)
          have HW := hide (show w2.ownsRow w.heap.size 5 1 v2 (encTab zs 0).length ((encTab zs 0).map (Value.int .u8)) ∧ Below w.heap.size w w2 from ⟨by
            unfold encTab; rw [if_pos HE.out]
            exact own_mono o2 B1.out.size, B1.out.trans (b2.mono B1.out.size)⟩)
          have HC := hide (show codeTab zs 0 = 0 from by unfold codeTab; rw [if_pos HE.out])
          clear o2 b2
          go_wp2
          go_ret2
          rw [HC.out]
          exact ⟨_, rfl, HW.out.1, HW.out.2⟩
        · first
          | omega
          | (skip
             have hr := range_row (w := wr) (b := b) (off := off) (k := 0) hz (by omega) (fun i hi => (HB.out.cell (p := ⟨b, off + i, none⟩) hbw).trans (hcell i hi))
             rw [Nat.zero_mul, Nat.add_zero] at hr
             have hlen := rowT_len zs 0 k hz (by omega)
             have HO := hide (show okTab zs k = (zeroB (rowT zs 0) && decide (lastT zs k ≤ 1000)) from by unfold okTab; rw [HA.out, Bool.true_and, rowO, if_pos (by omega)])
             generalize rowT zs 0 = r at hr hlen HO
             have HR := hide hr
             have HN := hide hlen
             have HE := hide (fun w => eqInoL w r HN.out)
             have hkp : (0 : Int) < (k : Int) := by omega
             clear hr hlen hcell
             cases hzr : zeroB r with
             | false =>
               have HO2 := hide (show okTab zs k = false from by rw [HO.out, hzr]; rfl)
               have HE2 := hide (fun w => (HE.out w).trans (by rw [hzr]))
               clear hzr HE HO
               go_wp2_with (first | (refine wpList_load_midG (by first | rfl | simp [Region.wanted, yielded]) 44 _ rfl b off rfl (r.map (Value.int .i64)) _ HR.out Tryd.underlying44 rfl (by rw [List.length_map, HN.out]; exact info24) ?_) | (refine wpList_neqG (by first | rfl | simp [Region.wanted, yielded]) 44 _ _ _ rfl (cellsI r) (cellsI (List.replicate 24 0)) rfl rfl guardIno false (HE2.out _) ?_))
               go_ret2
               rw [(codeTab_not HO2.out).1]
               exact ⟨_, rfl, own_none HO2.out, HB.out⟩
             | true =>
               have HO2 := hide (show okTab zs k = decide (lastT zs k ≤ 1000) from by rw [HO.out, hzr, Bool.true_and])
               have HE2 := hide (fun w => (HE.out w).trans (by rw [hzr]))
               clear hzr HE HO
               go_wp2_with (first | (refine wpList_load_midG (by first | rfl | simp [Region.wanted, yielded]) 44 _ rfl b off rfl (r.map (Value.int .i64)) _ HR.out Tryd.underlying44 rfl (by rw [List.length_map, HN.out]; exact info24) ?_) | (refine wpList_neqG (by first | rfl | simp [Region.wanted, yielded]) 44 _ _ _ rfl (cellsI r) (cellsI (List.replicate 24 0)) rfl rfl guardIno true (HE2.out _) ?_) | (go_at_call 24; fail))
               refine (l05Last_any _ k zs _ (HX.out.below HB.out)).mono ?_
               rintro e w1 ⟨rfl, b1⟩
               have B1 := hide (HB.out.trans (b1.mono HB.out.size))
               clear b1
               by_cases hL : lastT zs k ≤ 1000
               · have HE3 := hide (show okTab zs k = true from by rw [HO2.out]; simpa using hL)
                 have HL3 := hide hL
                 have hLi : ¬ (1000 : Int) < ((lastT zs k : Nat) : Int) := by omega
                 go_wp2_with (go_at_call 25; fail)
                 refine (l05Bytes_any _ k zs _ (HX.out.below B1.out) HA.out HL3.out).mono ?_
                 rintro e w2 ⟨v2, rfl, o2, b2⟩
                 have HW := hide (show w2.ownsRow w.heap.size 5 1 v2 (encTab zs k).length ((encTab zs k).map (Value.int .u8)) ∧ Below w.heap.size w w2 from ⟨by
                   unfold encTab; rw [if_pos HE3.out]
                   exact own_mono o2 B1.out.size, B1.out.trans (b2.mono B1.out.size)⟩)
                 have HC := hide (show codeTab zs k = 0 from by unfold codeTab; rw [if_pos HE3.out])
                 clear o2 b2
                 go_wp2
                 go_ret2
                 rw [HC.out]
                 exact ⟨_, rfl, HW.out.1, HW.out.2⟩
               · have HE3 := hide (show okTab zs k = false from by rw [HO2.out]; simpa using hL)
                 have hLi : (1000 : Int) < ((lastT zs k : Nat) : Int) := by omega
                 go_wp2
                 go_ret2
                 rw [(codeTab_not HE3.out).1]
                 exact ⟨_, rfl, own_none HE3.out, B1.out⟩)
end Go.Proofs.YtlpapoplnacobaaDoor
