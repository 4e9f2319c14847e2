/- The model's EncodeTable. The model's EncodeTable, whole. -/
import Derived.Test.YtlgafpjmifacmaaDoorZt32
import Derived.Test.YtlgafpjmifacmaaDoorZt05
namespace Go.Proofs.YtlgafpjmifacmaaDoor
set_option linter.unusedVariables false
set_option linter.unusedSimpArgs false
open Go.RowKit

theorem wpList_store_new {P : Program} {ops : Array Oper} {rest : List Oper} {o : Oper} {a : Act} {w : World} {Q : Exit → Act → World → Prop} (B : Nat) (W0 : World) (hgd : o.guard = none) (ty : TypeId) (x y : Operand) (ho : o.op = .store ty x y)
    (g : Nat) (cells : Array Value) (hx : a.eval x = .pointer (some ⟨g, 0, none⟩)) (hy : a.eval y = .agg cells)
    (t : TypeId) (old : Array Value) (hg : Blk w g old t) (hi : (P.info? ty).map (·.size) = some cells.size)
    (hold : old.size = cells.size) (h1 : cells.all (·.oneCell') = true) (hB : Below B W0 w) (hBg : B ≤ g)
    (h : ∀ w2, Blk w2 g cells t → Below B W0 w2 → wpList P ops Q rest (a.put o.dst undef) w2) : wpList P ops Q (o :: rest) a w :=
  wpList_store_row hgd ty x y ho g cells hx hy t old hg hi hold h1 (h _ (hg.row cells) (below_setRow hB hBg cells))

set_option maxRecDepth 100000 in
set_option maxHeartbeats 1000000 in
theorem l05Last_any (v : Value) (n : Nat) (zs : List Int) (w : World) (h : RdT w v n zs) :
    Calls Tryd.prog 24 #[v] w fun e w' => e = .returned (.int .i64 (lastT zs n)) ∧ Below w.heap.size w w' := by
  have hm := h.len
  have hz := h.1
  unfold maxLen at hm
  rcases h.parts with ⟨a, cap, rfl, hlow⟩ | ⟨b, off, cap, rfl, hbw, hcell⟩
  all_goals
    clear h
    go_enter Tryd.func24, Tryd.ntmps24
    go_wp2
    go_loopw [3, 8] (fun x i wr => ∃ k : Nat, k ≤ n ∧ i = .int .i64 k ∧ x = .int .i64 (lastK zs k) ∧ Below w.heap.size w wr) (fun _ i _ => n - (intOf i).toNat)
    case atStart => exact ⟨0, Nat.zero_le _, rfl, rfl, Below.refl _ _⟩
    case round =>
      obtain ⟨k, hk, rfl, rfl, hb1⟩ := hrel
      by_cases hlt : k < n
      · first
        | omega
        | (have hr := range_row (w := wr) (b := b) (off := off) hz hlt (fun i hi => (hb1.cell (p := ⟨b, off + i, none⟩) hbw).trans (hcell i hi))
           have hlen := rowT_len zs k n hz hlt
           have e0 : (rowT zs k).getD 0 0 = zs.getD (k * 24) 0 := rowT_get zs k 0 (by omega)
           have hL : lastK zs (k + 1) = if zs.getD (k * 24) 0 = 0 then lastK zs k else k := rfl
           rw [← e0] at hL
           have HL := hide hL
           have HL := hide hL
           have hg0 := cellsI_get (rowT zs k) 0 (by omega)
           generalize (rowT zs k).getD 0 0 = z at hg0 HL
           have HG := hide hg0
           generalize rowT zs k = r at hr hlen HG
           have HR := hide hr
           have HN := hide hlen
           have HZ := hide (show (cellsI r).size = 24 from by rw [cellsI_size]; exact HN.out)
           have HK := hide (show Blk (wr.alloc (.cells (cellsI (List.replicate 24 0)) 44)) wr.heap.size (cellsI (List.replicate 24 0)) 44 ∧ Below w.heap.size w (wr.alloc (.cells (cellsI (List.replicate 24 0)) 44)) from ⟨Blk.new _ _ _, hb1.alloc hb1.size _⟩)
           have hBs := hb1.size
           clear hr hlen hL hg0 e0 hb1 hcell
           by_cases hk0 : z = 0
           · subst hk0
             have HM := hide (show lastK zs (k + 1) = lastK zs k from by rw [HL.out]; rfl)
             go_wp2_with (first | (refine wpList_load_mid rfl 44 _ rfl b (off + k * 24) rfl (r.map (Value.int .i64)) _ HR.out Tryd.underlying44 rfl (by rw [List.length_map, HN.out]; exact info24) ?_) | (refine wpList_store_new w.heap.size w rfl 44 _ _ rfl wr.heap.size (cellsI r) rfl rfl 44 (cellsI (List.replicate 24 0)) HK.out.1 (by rw [HZ.out]; exact info24) (by rw [HZ.out]; rfl) (cellsI_one _) HK.out.2 hBs ?_; intro w2 k2 b2; have c0 := (k2.cell 0).trans HG.out; have B2 := hide b2; clear k2 b2))
             go_roundw
             case rel => exact ⟨k + 1, by omega, by go_num, by rw [HM.out], B2.out⟩
             case measure => simp [intOf]; omega
           · have HM := hide (show lastK zs (k + 1) = k from by rw [HL.out, if_neg hk0])
             have hkb : (z != 0) = true := by simpa using hk0
             go_wp2_with (first | (refine wpList_load_mid rfl 44 _ rfl b (off + k * 24) rfl (r.map (Value.int .i64)) _ HR.out Tryd.underlying44 rfl (by rw [List.length_map, HN.out]; exact info24) ?_) | (refine wpList_store_new w.heap.size w rfl 44 _ _ rfl wr.heap.size (cellsI r) rfl rfl 44 (cellsI (List.replicate 24 0)) HK.out.1 (by rw [HZ.out]; exact info24) (by rw [HZ.out]; rfl) (cellsI_one _) HK.out.2 hBs ?_; intro w2 k2 b2; have c0 := (k2.cell 0).trans HG.out; have B2 := hide b2; clear k2 b2))
             go_roundw
             case rel => exact ⟨k + 1, by omega, by go_num, by rw [HM.out], B2.out⟩
             case measure => simp [intOf]; omega)
      · have hkn : k = n := by omega
        subst hkn
        have HB := hide hb1
        have hll := lastK_lt zs k
        have hmm : (k : Int) ≤ 9223372036854775807 := by omega
        clear hb1
        by_cases hl1 : lastK zs k < 1
        · have HM := hide (show lastT zs k = 1 from by unfold lastT; omega)
          have hld : ((lastK zs k : Nat) : Int) < 1 := by omega
          go_wp2
          go_ret
          exact ⟨ret_int (by rw [HM.out]; rfl), HB.out⟩
        · have HM := hide (show lastT zs k = lastK zs k from by unfold lastT; omega)
          have hld : ¬ ((lastK zs k : Nat) : Int) < 1 := by omega
          go_wp2
          go_ret
          exact ⟨ret_int (by rw [HM.out]), HB.out⟩

set_option maxRecDepth 100000 in
set_option maxHeartbeats 1000000 in
theorem l05Bytes_any (v : Value) (n : Nat) (zs : List Int) (w : World) (h : RdT w v n zs) (hall : allRows zs n = true) (hlast : lastT zs n ≤ 1000) :
    Calls Tryd.prog 25 #[v] w fun e w' => ∃ v', e = .returned v' ∧ w'.ownsRow w.heap.size 5 1 v' (((List.range (lastT zs n + 1)).map fun k => bytesL (rowO zs n k)).flatten).length ((((List.range (lastT zs n + 1)).map fun k => bytesL (rowO zs n k)).flatten).map (Value.int .u8)) ∧ Below w.heap.size w w' := by
  obtain ⟨i0, hi, hz0, hz1', hz2⟩ := info_parts infoU8
  have HX := hide (And.intro h (And.intro hall hlast))
  have H0 := hide (own_empty w 5)
  have hb0 := hide (show Below w.heap.size w (w.alloc (.cells #[] 5)) from (Below.refl _ _).alloc (Nat.le_refl _) _)
  obtain ⟨hz, a, cap, rfl, _⟩ := h
  clear hall
  generalize hLe : lastT zs n = L at hlast
  have HLe := hide hLe
  clear hLe
  go_enter Tryd.func25, Tryd.ntmps25
  go_wp2
  go_loopw [3, 4] (fun o i wr => ∃ k : Nat, k ≤ L + 1 ∧ i = .int .i64 k ∧ wr.ownsRow w.heap.size 5 1 o (((List.range k).map fun k => bytesL (rowO zs n k)).flatten).length ((((List.range k).map fun k => bytesL (rowO zs n k)).flatten).map (Value.int .u8)) ∧ Below w.heap.size w wr) (fun _ i _ => L + 1 - (intOf i).toNat)
  case atStart => exact ⟨0, by omega, rfl, by simpa using H0.out, hb0.out⟩
  case round =>
    clear H0 hb0
    obtain ⟨k, hk, rfl, hown, hb⟩ := hrel
    have HO := hide hown
    have HB := hide hb
    clear hown hb
    go_wp2_with (go_at_call 24; fail)
    refine (l05Last_any (.slice a n cap) n zs _ (HX.out.1.below HB.out)).mono ?_
    rintro e w1 ⟨rfl, b1⟩
    rw [HLe.out]
    have O1 := hide (own_below HO.out b1)
    have B1 := hide (HB.out.trans (b1.mono HB.out.size))
    have hBs := B1.out.size
    clear b1 HO HB
    by_cases hlt : k ≤ L
    · have HT := hide (show ((List.range (k + 1)).map fun k => bytesL (rowO zs n k)).flatten = ((List.range k).map fun k => bytesL (rowO zs n k)).flatten ++ bytesL (rowO zs n k) from by
        rw [List.range_succ, List.map_append, List.flatten_append]; simp)
      have HLn := hide (flat_len zs n hz k)
      have HRt := hide (rowO_right HX.out.2.1 k)
      have HN := hide (rowO_len zs n k hz)
      by_cases hkn : k < n
      · obtain ⟨b, off, rfl, hbw, hcell⟩ := HX.out.1.get (by omega)
        have hr := range_row (w := w1) (b := b) (off := off) hz hkn (fun i hi => (B1.out.cell (p := ⟨b, off + i, none⟩) hbw).trans (hcell i hi))
        have hro : rowO zs n k = rowT zs k := by rw [rowO, if_pos hkn]
        rw [← hro] at hr
        have hbw1 : b < w1.heap.size := Nat.lt_of_lt_of_le hbw B1.out.size
        generalize rowO zs n k = r at hr HT HRt HN
        have HR := hide (show ∀ w4, Below w1.heap.size w1 w4 → w4.rangeAt b (off + k * 24) (r.map (Value.int .i64)) from fun w4 h4 j v hv => (h4.cell (p := ⟨b, off + k * 24 + j, none⟩) hbw1).trans (hr j v hv))
        have HZ := hide (show (cellsI r).size = 24 from by rw [cellsI_size]; exact HN.out)
        have HK := hide (show Blk (w1.alloc (.cells (cellsI (List.replicate 24 0)) 44)) w1.heap.size (cellsI (List.replicate 24 0)) 44 ∧ Below w1.heap.size w1 (w1.alloc (.cells (cellsI (List.replicate 24 0)) 44)) from ⟨Blk.new _ _ _, (Below.refl _ _).alloc (Nat.le_refl _) _⟩)
        clear hr hro hcell
        go_wp2_with (first | (refine wpList_store_new w1.heap.size w1 rfl 44 _ _ rfl w1.heap.size (cellsI (List.replicate 24 0)) rfl rfl 44 (cellsI (List.replicate 24 0)) HK.out.1 info24 rfl (cellsI_one _) HK.out.2 (Nat.le_refl _) ?_; intro w4 k4 b4; have K4 := hide k4; have B4 := hide b4; clear k4 b4) | (refine wpList_load_mid rfl 44 _ rfl b (off + k * 24) rfl (r.map (Value.int .i64)) _ (HR.out _ B4.out) Tryd.underlying44 rfl (by rw [List.length_map, HN.out]; exact info24) ?_) | (refine wpList_store_new w1.heap.size w1 rfl 44 _ _ rfl w1.heap.size (cellsI r) rfl rfl 44 (cellsI (List.replicate 24 0)) K4.out (by rw [HZ.out]; exact info24) (by rw [HZ.out]; rfl) (cellsI_one _) B4.out (Nat.le_refl _) ?_; intro w5 k5 b5; have K5 := hide k5; have O5 := hide (own_below O1.out b5); have B5 := hide (B1.out.trans (b5.mono B1.out.size)); clear k5 b5 K4 B4) | (refine wpList_load_row rfl 44 _ rfl w1.heap.size rfl 44 (cellsI r) (0, 0) _ K5.out Tryd.underlying44 rfl (by rw [HZ.out]; exact info24) ?_) | (go_at_call 47; fail))
        refine (inodeBytesL r _ HN.out HRt.out).mono ?_
        rintro e w6 ⟨v6, rfl, o6, b6⟩
        have hs6 := b6.size
        have O6 := hide (own_below O5.out b6)
        have B6 := hide (B5.out.trans (b6.mono B5.out.size))
        obtain ⟨bd, off6, cp, rfl, hbw6, _, _, hcell6⟩ := (Rd.own (zs := bytesL r) o6).partsC (by rw [bytesL_len r HN.out]; omega)
        have hl6 := bytesL_len r HN.out
        have HX6 := hide (show ∀ (j : Nat) (u : Value), ((bytesL r).map (Value.int .u8))[j]? = some u → w6.cell? ((⟨bd, off6, none⟩ : Addr).add j) = some u from fun j u hj => by
          have hjl : j < (bytesL r).length := by
            rcases Nat.lt_or_ge j (bytesL r).length with h | h
            · exact h
            · rw [List.getElem?_eq_none (by simpa using h)] at hj; cases hj
          rw [Addr.add_mid, hcell6 j hjl]
          rw [List.getElem?_map, List.getElem?_eq_getElem hjl] at hj
          simp at hj
          rw [← hj]
          simp [List.getD, hjl])
        have hcap6 : (((List.range k).map fun k => bytesL (rowO zs n k)).flatten).length ≤ 128128 := by rw [HLn.out]; omega
        have HL6 := hide hl6
        rw [hl6]
        clear hcell6 o6 b6 O5 B5 K5 hl6
        go_wp2_with (at_builtin; refine append_fresh _ rfl (.tmp 22) (.tmp 24) 24 rfl w.heap.size 5 i0 (.int .u8 0) 1 1 Tryd.underlying24 hi hz0 hz1' hz2 rfl (by decide) _ _ _ rfl O6.out ⟨bd, off6, none⟩ 128 cp ((bytesL r).map (Value.int .u8)) rfl (by rw [List.length_map, HL6.out]) HX6.out (ints_oneCell _ _) (by omega) (by unfold maxLen; omega) (by omega) (B6.out.size) ?_; intro v7 w7 o7 g7 f7)
        have HW := hide (show w7.ownsRow w.heap.size 5 1 v7 (((List.range (k + 1)).map fun k => bytesL (rowO zs n k)).flatten).length ((((List.range (k + 1)).map fun k => bytesL (rowO zs n k)).flatten).map (Value.int .u8)) ∧ Below w.heap.size w w7 from by
          refine ⟨?_, B6.out.grown g7 B6.out.size (fun r h => (O6.out.lt r h).1)⟩
          rw [HT.out, List.map_append, List.length_append, HL6.out]
          exact o7)
        clear o7 g7 f7
        go_roundw
        case rel => exact ⟨k + 1, by omega, by go_num, HW.out.1, HW.out.2⟩
        case measure => simp [intOf]; omega
      · have hro : rowO zs n k = List.replicate 24 0 := by rw [rowO, if_neg hkn]
        have HK := hide (show Blk (w1.alloc (.cells (cellsI (List.replicate 24 0)) 44)) w1.heap.size (cellsI (List.replicate 24 0)) 44 ∧ Below w1.heap.size w1 (w1.alloc (.cells (cellsI (List.replicate 24 0)) 44)) from ⟨Blk.new _ _ _, (Below.refl _ _).alloc (Nat.le_refl _) _⟩)
        rw [← hro] at HK
        have HRo := hide hro
        generalize rowO zs n k = r at HT HRt HN HRo HK
        have HZ := hide (show (cellsI r).size = 24 from by rw [cellsI_size]; exact HN.out)
        go_wp2_with (first | (refine wpList_store_new w1.heap.size w1 rfl 44 _ _ rfl w1.heap.size (cellsI r) rfl (by rw [HRo.out]; rfl) 44 (cellsI (List.replicate 24 0)) (by have h := HK.out.1; rw [HRo.out] at h; exact h) (by rw [HZ.out]; exact info24) (by rw [HZ.out]; rfl) (cellsI_one _) (by have h := HK.out.2; rw [HRo.out] at h; exact h) (Nat.le_refl _) ?_; intro w5 k5 b5; have K5 := hide k5; have O5 := hide (own_below O1.out b5); have B5 := hide (B1.out.trans (b5.mono B1.out.size)); clear k5 b5) | (refine wpList_load_row rfl 44 _ rfl w1.heap.size rfl 44 (cellsI r) (0, 0) _ K5.out Tryd.underlying44 rfl (by rw [HZ.out]; exact info24) ?_) | (go_at_call 47; fail))
        refine (inodeBytesL r _ HN.out HRt.out).mono ?_
        rintro e w6 ⟨v6, rfl, o6, b6⟩
        have hs6 := b6.size
        have O6 := hide (own_below O5.out b6)
        have B6 := hide (B5.out.trans (b6.mono B5.out.size))
        obtain ⟨bd, off6, cp, rfl, hbw6, _, _, hcell6⟩ := (Rd.own (zs := bytesL r) o6).partsC (by rw [bytesL_len r HN.out]; omega)
        have hl6 := bytesL_len r HN.out
        have HX6 := hide (show ∀ (j : Nat) (u : Value), ((bytesL r).map (Value.int .u8))[j]? = some u → w6.cell? ((⟨bd, off6, none⟩ : Addr).add j) = some u from fun j u hj => by
          have hjl : j < (bytesL r).length := by
            rcases Nat.lt_or_ge j (bytesL r).length with h | h
            · exact h
            · rw [List.getElem?_eq_none (by simpa using h)] at hj; cases hj
          rw [Addr.add_mid, hcell6 j hjl]
          rw [List.getElem?_map, List.getElem?_eq_getElem hjl] at hj
          simp at hj
          rw [← hj]
          simp [List.getD, hjl])
        have hcap6 : (((List.range k).map fun k => bytesL (rowO zs n k)).flatten).length ≤ 128128 := by rw [HLn.out]; omega
        have HL6 := hide hl6
        rw [hl6]
        clear hcell6 o6 b6 O5 B5 K5 hl6
        go_wp2_with (at_builtin; refine append_fresh _ rfl (.tmp 22) (.tmp 24) 24 rfl w.heap.size 5 i0 (.int .u8 0) 1 1 Tryd.underlying24 hi hz0 hz1' hz2 rfl (by decide) _ _ _ rfl O6.out ⟨bd, off6, none⟩ 128 cp ((bytesL r).map (Value.int .u8)) rfl (by rw [List.length_map, HL6.out]) HX6.out (ints_oneCell _ _) (by omega) (by unfold maxLen; omega) (by omega) (B6.out.size) ?_; intro v7 w7 o7 g7 f7)
        have HW := hide (show w7.ownsRow w.heap.size 5 1 v7 (((List.range (k + 1)).map fun k => bytesL (rowO zs n k)).flatten).length ((((List.range (k + 1)).map fun k => bytesL (rowO zs n k)).flatten).map (Value.int .u8)) ∧ Below w.heap.size w w7 from by
          refine ⟨?_, B6.out.grown g7 B6.out.size (fun r h => (O6.out.lt r h).1)⟩
          rw [HT.out, List.map_append, List.length_append, HL6.out]
          exact o7)
        clear o7 g7 f7
        go_roundw
        case rel => exact ⟨k + 1, by omega, by go_num, HW.out.1, HW.out.2⟩
        case measure => simp [intOf]; omega
    · have hke : k = L + 1 := by omega
      subst hke
      go_wp2
      go_ret
      exact ⟨_, rfl, O1.out, B1.out⟩
end Go.Proofs.YtlgafpjmifacmaaDoor

namespace Go.Proofs.YtlgafpjmifacmaaDoor
set_option linter.unusedVariables false
set_option linter.unusedSimpArgs false
open Go.RowKit

theorem allRows_step {zs : List Int} {k : Nat} (h : allRows zs k = true) (hr : rightL (rowT zs k) = true) : allRows zs (k + 1) = true := by
  unfold allRows at h ⊢
  rw [List.range_succ, List.all_append, h]
  simp [hr]
theorem allRows_not {zs : List Int} {n k : Nat} (hk : k < n) (hr : rightL (rowT zs k) = false) : allRows zs n = false := by
  cases h : allRows zs n with
  | false => rfl
  | true => rw [allRows_at h hk] at hr; cases hr
theorem wpList_neqG {P : Program} {ops : Array Oper} {rest : List Oper} {o : Oper} {a : Act} {w : World} {Q : Exit → Act → World → Prop} (hw : Region.wanted o (yielded ops a.tmps) = true) (t u : TypeId) (x y : Operand) (ho : o.op = .binOp .neq t x y u)
    (cs ds : Array Value) (hx : a.eval x = .agg cs) (hy : a.eval y = .agg ds) (hm : P.eqGuardType P.depth t = false) (b : Bool) (hE : (Op.equalIn 10000 t (.agg cs) (.agg ds)).run P w = .ok b w)
    (h : wpList P ops Q rest (a.put o.dst (.bool (!b))) w) : wpList P ops Q (o :: rest) a w := by
  refine Go.BigFrame.wpList_want hw fun K hK => ?_
  have hrun : (execOp a.eval o).run P w = .ok (.value (.bool (!b))) w := by
    simp [execOp, ho, hx, hy, run_eqGuard_agg w _ _ _ _ _ _ hm, run_neq_struct, hE, Result.andThen]
  unfold Oper.wp
  rw [hrun, Oper.upon_value]
  exact hK _ _ h
theorem codeTab_not {zs : List Int} {n : Nat} (h : okTab zs n = false) : codeTab zs n = 7 ∧ encTab zs n = [] := by
  unfold codeTab encTab; rw [h]; exact ⟨rfl, rfl⟩
theorem own_none {w : World} {base : Nat} {zs : List Int} {n : Nat} (h : okTab zs n = false) : w.ownsRow base 5 1 (.slice none 0 0) (encTab zs n).length ((encTab zs n).map (Value.int .u8)) := by
  rw [(codeTab_not h).2]
  exact World.ownsRow_nil _ _ _ _
set_option maxRecDepth 100000 in
set_option maxHeartbeats 1000000 in
theorem specTab_any (v : Value) (n : Nat) (zs : List Int) (w : World) (h : RdT w v n zs) :
    Calls Tryd.prog 7 #[v] w fun e w' => ∃ v', e = .returned (.tuple #[v', .int .i64 (codeTab zs n)]) ∧ w'.ownsRow w.heap.size 5 1 v' (encTab zs n).length ((encTab zs n).map (Value.int .u8)) ∧ Below w.heap.size w w' := by
  have HX := hide h
  have hm := h.len
  have hz := h.1
  unfold maxLen at hm
  rcases h.parts with ⟨a, cap, rfl, hlow⟩ | ⟨b, off, cap, rfl, hbw, hcell⟩
  all_goals
    clear h
    go_enter Tryd.func7, Tryd.ntmps7
    go_wp2
    go_loopw [8] (fun i wr => ∃ k : Nat, k ≤ n ∧ i = .int .i64 k ∧ allRows zs k = true ∧ Below w.heap.size w wr) (fun i _ => n - (intOf i).toNat)
    case atStart => exact ⟨0, Nat.zero_le _, rfl, rfl, Below.refl _ _⟩
    case round =>
      obtain ⟨k, hk, rfl, hal, hb1⟩ := hrel
      have HA := hide hal
      clear hal
      by_cases hlt : k < n
      · first
        | omega
        | (have hr := range_row (w := wr) (b := b) (off := off) hz hlt (fun i hi => (hb1.cell (p := ⟨b, off + i, none⟩) hbw).trans (hcell i hi))
           have hlen := rowT_len zs k n hz hlt
           have HS := hide (fun h => allRows_step HA.out (show rightL (rowT zs k) = true from h))
           have HNo := hide (fun h => allRows_not hlt (show rightL (rowT zs k) = false from h))
           generalize rowT zs k = r at hr hlen HS HNo
           have HR := hide hr
           have HN := hide hlen
           have HZ := hide (show (cellsI r).size = 24 from by rw [cellsI_size]; exact HN.out)
           have HK := hide (show Blk (wr.alloc (.cells (cellsI (List.replicate 24 0)) 44)) wr.heap.size (cellsI (List.replicate 24 0)) 44 ∧ Below w.heap.size w (wr.alloc (.cells (cellsI (List.replicate 24 0)) 44)) from ⟨Blk.new _ _ _, hb1.alloc hb1.size _⟩)
           have hBs := hb1.size
           clear hr hlen hb1 hcell
           go_wp2_with (first | (refine wpList_load_mid rfl 44 _ rfl b (off + k * 24) rfl (r.map (Value.int .i64)) _ HR.out Tryd.underlying44 rfl (by rw [List.length_map, HN.out]; exact info24) ?_) | (refine wpList_store_new w.heap.size w rfl 44 _ _ rfl wr.heap.size (cellsI r) rfl rfl 44 (cellsI (List.replicate 24 0)) HK.out.1 (by rw [HZ.out]; exact info24) (by rw [HZ.out]; rfl) (cellsI_one _) HK.out.2 hBs ?_; intro w2 k2 b2; have K2 := hide k2; have B2 := hide b2; clear k2 b2) | (refine wpList_load_row rfl 44 _ rfl wr.heap.size rfl 44 (cellsI r) (0, 0) _ K2.out Tryd.underlying44 rfl (by rw [HZ.out]; exact info24) ?_) | (go_at_call 23; fail))
           refine (l02InodeL r _ HN.out).mono ?_
           rintro e w3 ⟨rfl, b3⟩
           have B3 := hide (B2.out.trans (b3.mono B2.out.size))
           clear b3 B2 K2
           cases hrr : rightL r with
           | false =>
             have HO := hide (show okTab zs n = false from by unfold okTab; rw [HNo.out hrr, Bool.false_and])
             clear hrr
             go_wp2
             go_ret2
             rw [(codeTab_not HO.out).1]
             exact ⟨_, rfl, own_none HO.out, B3.out⟩
           | true =>
             have HA2 := hide (HS.out hrr)
             clear hrr
             go_wp2
             go_roundw
             case rel => exact ⟨k + 1, by omega, by go_num, HA2.out, B3.out⟩
             case measure => simp [intOf]; omega)
      · have hkn : k = n := by omega
        subst hkn
        have HB := hide hb1
        clear hb1
        by_cases hk0 : k = 0
        · subst hk0
          have HO := hide (show okTab zs 0 = decide (lastT zs 0 ≤ 1000) from by unfold okTab; rw [HA.out, Bool.true_and, show zeroB (rowO zs 0 0) = true from rfl, Bool.true_and])
          have HL1 := hide (show lastT zs 0 = 1 from rfl)
          go_wp2_with (go_at_call 24; fail)
          refine (l05Last_any _ 0 zs _ (HX.out.below HB.out)).mono ?_
          rintro e w1 ⟨rfl, b1⟩
          rw [HL1.out]
          have B1 := hide (HB.out.trans (b1.mono HB.out.size))
          clear b1
          go_wp2_with (go_at_call 25; fail)
          refine (l05Bytes_any _ 0 zs _ (HX.out.below B1.out) HA.out (by rw [HL1.out]; omega)).mono ?_
          rintro e w2 ⟨v2, rfl, o2, b2⟩
          have HE := hide (show okTab zs 0 = true from by rw [HO.out, HL1.out]; rfl)
          have HW := hide (show w2.ownsRow w.heap.size 5 1 v2 (encTab zs 0).length ((encTab zs 0).map (Value.int .u8)) ∧ Below w.heap.size w w2 from ⟨by
            unfold encTab; rw [if_pos HE.out]
            exact own_mono o2 B1.out.size, B1.out.trans (b2.mono B1.out.size)⟩)
          have HC := hide (show codeTab zs 0 = 0 from by unfold codeTab; rw [if_pos HE.out])
          clear o2 b2
          go_wp2
          go_ret2
          rw [HC.out]
          exact ⟨_, rfl, HW.out.1, HW.out.2⟩
        · first
          | omega
          | (skip
             have hr := range_row (w := wr) (b := b) (off := off) (k := 0) hz (by omega) (fun i hi => (HB.out.cell (p := ⟨b, off + i, none⟩) hbw).trans (hcell i hi))
             rw [Nat.zero_mul, Nat.add_zero] at hr
             have hlen := rowT_len zs 0 k hz (by omega)
             have HO := hide (show okTab zs k = (zeroB (rowT zs 0) && decide (lastT zs k ≤ 1000)) from by unfold okTab; rw [HA.out, Bool.true_and, rowO, if_pos (by omega)])
             generalize rowT zs 0 = r at hr hlen HO
             have HR := hide hr
             have HN := hide hlen
             have HE := hide (fun w => eqInoL w r HN.out)
             have hkp : (0 : Int) < (k : Int) := by omega
             clear hr hlen hcell
             cases hzr : zeroB r with
             | false =>
               have HO2 := hide (show okTab zs k = false from by rw [HO.out, hzr]; rfl)
               have HE2 := hide (fun w => (HE.out w).trans (by rw [hzr]))
               clear hzr HE HO
               go_wp2_with (first | (refine wpList_load_midG (by first | rfl | simp [Region.wanted, yielded]) 44 _ rfl b off rfl (r.map (Value.int .i64)) _ HR.out Tryd.underlying44 rfl (by rw [List.length_map, HN.out]; exact info24) ?_) | (refine wpList_neqG (by first | rfl | simp [Region.wanted, yielded]) 44 _ _ _ rfl (cellsI r) (cellsI (List.replicate 24 0)) rfl rfl guardIno false (HE2.out _) ?_))
               go_ret2
               rw [(codeTab_not HO2.out).1]
               exact ⟨_, rfl, own_none HO2.out, HB.out⟩
             | true =>
               have HO2 := hide (show okTab zs k = decide (lastT zs k ≤ 1000) from by rw [HO.out, hzr, Bool.true_and])
               have HE2 := hide (fun w => (HE.out w).trans (by rw [hzr]))
               clear hzr HE HO
               go_wp2_with (first | (refine wpList_load_midG (by first | rfl | simp [Region.wanted, yielded]) 44 _ rfl b off rfl (r.map (Value.int .i64)) _ HR.out Tryd.underlying44 rfl (by rw [List.length_map, HN.out]; exact info24) ?_) | (refine wpList_neqG (by first | rfl | simp [Region.wanted, yielded]) 44 _ _ _ rfl (cellsI r) (cellsI (List.replicate 24 0)) rfl rfl guardIno true (HE2.out _) ?_) | (go_at_call 24; fail))
               refine (l05Last_any _ k zs _ (HX.out.below HB.out)).mono ?_
               rintro e w1 ⟨rfl, b1⟩
               have B1 := hide (HB.out.trans (b1.mono HB.out.size))
               clear b1
               by_cases hL : lastT zs k ≤ 1000
               · have HE3 := hide (show okTab zs k = true from by rw [HO2.out]; simpa using hL)
                 have HL3 := hide hL
                 have hLi : ¬ (1000 : Int) < ((lastT zs k : Nat) : Int) := by omega
                 go_wp2_with (go_at_call 25; fail)
                 refine (l05Bytes_any _ k zs _ (HX.out.below B1.out) HA.out HL3.out).mono ?_
                 rintro e w2 ⟨v2, rfl, o2, b2⟩
                 have HW := hide (show w2.ownsRow w.heap.size 5 1 v2 (encTab zs k).length ((encTab zs k).map (Value.int .u8)) ∧ Below w.heap.size w w2 from ⟨by
                   unfold encTab; rw [if_pos HE3.out]
                   exact own_mono o2 B1.out.size, B1.out.trans (b2.mono B1.out.size)⟩)
                 have HC := hide (show codeTab zs k = 0 from by unfold codeTab; rw [if_pos HE3.out])
                 clear o2 b2
                 go_wp2
                 go_ret2
                 rw [HC.out]
                 exact ⟨_, rfl, HW.out.1, HW.out.2⟩
               · have HE3 := hide (show okTab zs k = false from by rw [HO2.out]; simpa using hL)
                 have hLi : (1000 : Int) < ((lastT zs k : Nat) : Int) := by omega
                 go_wp2
                 go_ret2
                 rw [(codeTab_not HE3.out).1]
                 exact ⟨_, rfl, own_none HE3.out, B1.out⟩)
end Go.Proofs.YtlgafpjmifacmaaDoor
