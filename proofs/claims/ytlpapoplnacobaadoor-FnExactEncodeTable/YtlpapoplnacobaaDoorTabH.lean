/- The program's EncodeTable, whole. -/
import Derived.Test.YtlpapoplnacobaaDoorTabG
namespace Go.Proofs.YtlpapoplnacobaaDoor
set_option linter.unusedVariables false
set_option linter.unusedSimpArgs false
open Go.RowKit

theorem okTo_full (zs : List Int) (n : Nat) (hz : zs.length = n * 24) : okTo (tabZ zs n) (tabN zs n) (tabN zs n) = okTab zs n := by
  rw [← ok_same zs n hz]
  have h2 : decide (tabN zs n = 0) = false := by
    have : 2 ≤ tabN zs n := by unfold tabN; omega
    simp; omega
  unfold okTo okPro
  rw [h2, Bool.false_or]
theorem flatT_len (Z : List Int) (T : Nat) (hZ : Z.length = T * 24) : ∀ m, m ≤ T → ((List.range m).map fun k => bytesL (rowT Z k)).flatten.length = m * 128 := by
  intro m
  induction m with
  | zero => intro _; rfl
  | succ m ih =>
    intro h
    rw [List.range_succ, List.map_append, List.flatten_append, List.length_append, ih (by omega)]
    simp [bytesL_len _ (rowT_len Z m T hZ (by omega))]
    omega
set_option maxRecDepth 100000 in
set_option maxHeartbeats 1000000 in
theorem layTable_any (v : Value) (T : Nat) (Z : List Int) (w2 : World) (h : RdT w2 v T Z) (h2 : 2 ≤ T) (hbd : T ≤ 1001) (hal : allRows Z T = true) :
    Calls Tryd.prog 30 #[v] w2 fun e w' => ∃ v', e = .returned v' ∧ w'.ownsRow w2.heap.size 5 1 v' (((List.range T).map fun k => bytesL (rowT Z k)).flatten).length ((((List.range T).map fun k => bytesL (rowT Z k)).flatten).map (Value.int .u8)) ∧ Below w2.heap.size w2 w' := by
  obtain ⟨i0, hi, hz0, hz1', hz2⟩ := info_parts infoU8
  have R2 := hide h
  have HAl := hide hal
  clear h hal
  obtain ⟨b, off, cap, rfl, hbw, hcell⟩ := (R2.out.parts).resolve_left (by rintro ⟨a, c, _, h⟩; omega)
  have hZ := R2.out.1
  clear R2
  go_enter Tryd.func30, Tryd.ntmps30
  go_wp2_with (first | (refine wpList_make_own _ rfl _ _ 24 rfl w2.heap.size 5 i0 (.int .u8 0) 1 Tryd.underlying24 hi hz0 hz1' .i64 .i64 _ (T * 128) rfl rfl (by go_num) (by rw [hz2]; omega) (by unfold maxLen; omega) (Nat.le_refl _) ?_; intro w3 o3 g3; have O3 := hide o3; have G3 := hide (show Below w2.heap.size w2 w3 from (Below.refl _ _).grown g3 (Nat.le_refl _) (fun k h => by cases h)); clear o3 g3))
  go_loopw [3, 12] (fun o i wr => ∃ k : Nat, k ≤ T ∧ i = .int .i64 k ∧ wr.ownsRow w2.heap.size 5 1 o (((List.range k).map fun k => bytesL (rowT Z k)).flatten).length ((((List.range k).map fun k => bytesL (rowT Z k)).flatten).map (Value.int .u8)) ∧ Below w2.heap.size w2 wr) (fun _ i _ => T - (intOf i).toNat)
  case atStart => exact ⟨0, by omega, rfl, by simpa using O3.out, G3.out⟩
  case round =>
    clear O3 G3
    obtain ⟨k, hk, rfl, hown, hb1⟩ := hrel
    have HOw := hide hown
    have HBw := hide hb1
    clear hown
    by_cases hlt : k < T
    · have HT := hide (show ((List.range (k + 1)).map fun k => bytesL (rowT Z k)).flatten = ((List.range k).map fun k => bytesL (rowT Z k)).flatten ++ bytesL (rowT Z k) from by
        rw [List.range_succ, List.map_append, List.flatten_append]; simp)
      have HLn := hide (flatT_len Z T hZ k hk)
      have HRt := hide (allRows_at HAl.out hlt)
      have hr := range_row (w := wr) (b := b) (off := off) hZ hlt (fun i hi => (hb1.cell (p := ⟨b, off + i, none⟩) hbw).trans (hcell i hi))
      have hlen := rowT_len Z k T hZ hlt
      generalize rowT Z k = r at hr hlen HT HRt
      have HR := hide hr
      have HN := hide hlen
      have HZ := hide (show (cellsI r).size = 24 from by rw [cellsI_size]; exact HN.out)
      have HK := hide (show Blk (wr.alloc (.cells (cellsI (List.replicate 24 0)) 44)) wr.heap.size (cellsI (List.replicate 24 0)) 44 ∧ Below wr.heap.size wr (wr.alloc (.cells (cellsI (List.replicate 24 0)) 44)) from ⟨Blk.new _ _ _, (Below.refl _ _).alloc (Nat.le_refl _) _⟩)
      have hcap6 : (((List.range k).map fun k => bytesL (rowT Z k)).flatten).length ≤ 128128 := by rw [HLn.out]; omega
      clear hr hlen hb1 hcell
      go_wp2_with (first | (refine wpList_load_mid rfl 44 _ rfl b (off + k * 24) rfl (r.map (Value.int .i64)) _ HR.out Tryd.underlying44 rfl (by rw [List.length_map, HN.out]; exact info24) ?_) | (refine wpList_store_new wr.heap.size wr rfl 44 _ _ rfl wr.heap.size (cellsI r) rfl rfl 44 (cellsI (List.replicate 24 0)) HK.out.1 (by rw [HZ.out]; exact info24) (by rw [HZ.out]; rfl) (cellsI_one _) HK.out.2 (Nat.le_refl _) ?_; intro w5 k5 b5; have K5 := hide k5; have O5 := hide (own_below HOw.out b5); have B5 := hide (HBw.out.trans (b5.mono HBw.out.size)); clear k5 b5) | (refine wpList_load_row rfl 44 _ rfl wr.heap.size rfl 44 (cellsI r) (0, 0) _ K5.out Tryd.underlying44 rfl (by rw [HZ.out]; exact info24) ?_) | (go_at_call 52; fail))
      refine (layInodeL r _ HN.out HRt.out).mono ?_
      rintro e w6 ⟨v6, rfl, o6, b6⟩
      have hs6 := b6.size
      have O6 := hide (own_below O5.out b6)
      have B6 := hide (B5.out.trans (b6.mono B5.out.size))
      obtain ⟨bd, off6, cp, rfl, hbw6, _, _, hcell6⟩ := (Rd.own (zs := bytesL r) o6).partsC (by rw [bytesL_len r HN.out]; omega)
      have hl6 := bytesL_len r HN.out
      have HX6 := hide (show ∀ (j : Nat) (u : Value), ((bytesL r).map (Value.int .u8))[j]? = some u → w6.cell? ((⟨bd, off6, none⟩ : Addr).add j) = some u from fun j u hj => by
        have hjl : j < (bytesL r).length := by
          rcases Nat.lt_or_ge j (bytesL r).length with h | h
          · exact h
          · rw [List.getElem?_eq_none (by simpa using h)] at hj; cases hj
        rw [Addr.add_mid, hcell6 j hjl]
        rw [List.getElem?_map, List.getElem?_eq_getElem hjl] at hj
        simp at hj
        rw [← hj]
        simp [List.getD, hjl])
      have HL6 := hide hl6
      rw [hl6]
      clear hcell6 o6 b6 O5 B5 K5 hl6
      go_wp2_with (at_builtin; refine append_fresh _ rfl (.tmp 16) (.tmp 18) 24 rfl w2.heap.size 5 i0 (.int .u8 0) 1 1 Tryd.underlying24 hi hz0 hz1' hz2 rfl (by decide) _ _ _ rfl O6.out ⟨bd, off6, none⟩ 128 cp ((bytesL r).map (Value.int .u8)) rfl (by rw [List.length_map, HL6.out]) HX6.out (ints_oneCell _ _) (by omega) (by unfold maxLen; omega) (by omega) (B6.out.size) ?_; intro v7 w7 o7 g7 f7)
      have HW := hide (show w7.ownsRow w2.heap.size 5 1 v7 (((List.range (k + 1)).map fun k => bytesL (rowT Z k)).flatten).length ((((List.range (k + 1)).map fun k => bytesL (rowT Z k)).flatten).map (Value.int .u8)) ∧ Below w2.heap.size w2 w7 from by
        refine ⟨?_, B6.out.grown g7 B6.out.size (fun r h => (O6.out.lt r h).1)⟩
        rw [HT.out, List.map_append, List.length_append, HL6.out]
        exact o7)
      clear o7 g7 f7
      go_roundw
      case rel => exact ⟨k + 1, by omega, by go_num, HW.out.1, HW.out.2⟩
      case measure => simp [intOf]; omega
    · have hkn : k = T := by omega
      subst hkn
      clear hb1
      go_wp2
      go_ret
      exact ⟨_, rfl, HOw.out, HBw.out⟩

set_option maxRecDepth 100000 in
set_option maxHeartbeats 1000000 in
theorem implTab_any (v : Value) (n : Nat) (zs : List Int) (w : World) (h : RdT w v n zs) (hn : n ≤ 1048576) (hg : ErrT w) :
    Calls Tryd.prog 9 #[v] w fun e w' => ∃ v', e = .returned (.tuple #[v', .int .i64 (codeTab zs n)]) ∧ w'.ownsRow w.heap.size 5 1 v' (encTab zs n).length ((encTab zs n).map (Value.int .u8)) ∧ Below w.heap.size w w' := by
  obtain ⟨i0, hi, hz0, hz1', hz2⟩ := info_parts infoU8
  have HX := hide h
  have hz := h.1
  have HG := hide hg
  have HOk := hide (okTo_full zs n hz)
  clear h hg
  go_enter Tryd.func9, Tryd.ntmps9
  go_wp2_with (go_at_call 27; fail)
  refine (tableOf_any v n zs _ HX.out hn).mono ?_
  rintro e w1 ⟨v1, rfl, o1, b1⟩
  have R1 := hide (RdT.own o1)
  have B1 := hide b1
  clear o1 b1
  go_wp2_with (go_at_call 28; fail)
  refine (tableFault_any v1 (tabN zs n) (tabZ zs n) 7 _ R1.out).mono ?_
  rintro e w2 ⟨ev, rfl, hf, b2⟩
  rw [HOk.out] at hf
  have B2 := hide (B1.out.trans (b2.mono B1.out.size))
  have R2 := hide (R1.out.below b2)
  clear b2 R1 B1
  rcases hf with ⟨hr, rfl⟩ | ⟨hr, m, hm⟩
  · have HE := hide (enc_same zs n hz hr)
    have HO := hide hr
    have hbd : tabN zs n ≤ 1001 := by
      have h1 := ok_same zs n hz
      rw [hr] at h1
      unfold okPro at h1
      simp only [Bool.and_eq_true, decide_eq_true_eq] at h1
      omega
    have HAl := hide (show allRows (tabZ zs n) (tabN zs n) = true from by
      have h1 := ok_same zs n hz
      rw [hr] at h1
      unfold okPro at h1
      simp only [Bool.and_eq_true, decide_eq_true_eq] at h1
      exact h1.2.1)
    have h2 : 2 ≤ tabN zs n := by unfold tabN; omega
    generalize tabN zs n = T at hbd HAl h2 R2 HE
    generalize tabZ zs n = Z at HAl R2 HE
    clear hr
    go_wp2_with (go_at_call 30; fail)
    refine (layTable_any v1 T Z _ R2.out h2 hbd HAl.out).mono ?_
    rintro e w3 ⟨v3, rfl, o3, b3⟩
    have h1 := o3
    rw [HE.out] at h1
    have O3 := hide (own_mono h1 B2.out.size)
    have B3 := hide (B2.out.trans (b3.mono B2.out.size))
    clear o3 b3 h1
    go_wp2
    go_ret2
    rw [show codeTab zs n = 0 from by unfold codeTab; rw [if_pos HO.out]]
    exact ⟨_, rfl, O3.out, B3.out⟩
  · obtain ⟨t', x', rfl⟩ := hm.iface
    have H4 := hide hm
    have HO := hide hr
    clear hr hm
    go_wp2_with (go_at_call 29; refine (codeOf_any m _ 7 _ _ H4.out (HG.out.below B2.out)).mono ?_; rintro e w3 ⟨rfl, hb3⟩)
    go_ret2
    rw [(codeTab_not HO.out).1]
    exact ⟨_, rfl, own_none HO.out, B2.out.trans (hb3.mono B2.out.size)⟩
end Go.Proofs.YtlpapoplnacobaaDoor
