/- The counts of a map, the program's MapCount. -/
import Derived.Test.YtbgiccgfgljkbaaDoorMapB
namespace Go.Proofs.YtbgiccgfgljkbaaDoor
set_option linter.unusedVariables false
set_option linter.unusedSimpArgs false
open Go.RowKit

/-- The first row of the frame, of zeros. -/
theorem first35 (w : World) : ∃ W, W = w.alloc (.cells #[.int .i64 0, .int .i64 0, .int .i64 0, .int .i64 0, .int .i64 0, .int .i64 0, .int .i64 0, .int .i64 0, .int .i64 0, .int .i64 0, .int .i64 0, .int .i64 0, .int .i64 0, .int .i64 0, .int .i64 0, .int .i64 0, .int .i64 0, .int .i64 0, .int .i64 0, .int .i64 0, .int .i64 0, .int .i64 0, .int .i64 0, .int .i64 0, .int .i64 0, .int .i64 0, .int .i64 0, .int .i64 0, .int .i64 0, .int .i64 0, .int .i64 0, .int .i64 0, .int .i64 0, .int .i64 0, .int .i64 0] 25) ∧ Hid (Blk W w.heap.size (cellsI (List.replicate 35 0)) 25 ∧ Below w.heap.size w W ∧ W.heap.size = w.heap.size + 1) :=
  ⟨_, rfl, Blk.new w _ _, (Below.refl _ _).alloc (Nat.le_refl _) _, by simp⟩

set_option maxRecDepth 100000 in
set_option maxHeartbeats 2000000 in
theorem implC_bad (v : Value) (ws : List Int) (w : World) (h : Rd .i64 w v ws) (hg : ErrT w) (hr : rightM ws = false) :
    Calls Tryd.prog 9 #[v] w fun e w' => e = .returned (.tuple #[.agg (cellsI (List.replicate 35 0)), .int .i64 7]) ∧ Below w.heap.size w w' := by
  have hm := h.len
  unfold maxLen at hm
  have HG := hide (And.intro h hg)
  have hsh : ∃ a cap, v = .slice a ws.length cap := by obtain ⟨a, cap, h1, _⟩ := h; exact ⟨a, cap, h1⟩
  obtain ⟨a, cap, rfl⟩ := hsh
  clear h hg
  obtain ⟨W, hW, K0⟩ := first35 w
  have HW := hide hW
  clear hW
  go_enter Tryd.func9, Tryd.ntmps9
  go_wp2_with (go_at_call 23; fail)
  rw [← HW.out]
  refine (mapFault_any _ ws _ (HG.out.1.below K0.out.2.1)).mono ?_
  rintro e w1 ⟨ev, rfl, hf1, hb1⟩
  have kB := hide (K0.out.1.below hb1 K0.out.1.lt)
  rw [hr] at hf1
  rcases hf1 with ⟨hr', _⟩ | ⟨_, n, hf⟩
  · cases hr'
  · obtain ⟨t', x', rfl⟩ := hf.iface
    have HF := hide (And.intro hf hb1)
    clear hf hb1 hr HW
    go_wp2_with (go_at_call 24; fail)
    refine (codeOf_any n _ 7 _ _ HF.out.1 ((HG.out.2.below K0.out.2.1).below HF.out.2)).mono ?_
    rintro e w2 ⟨rfl, hb2⟩
    have KB2 := hide (kB.out.below hb2 kB.out.lt)
    have HB2 := hide ((K0.out.2.1.trans (HF.out.2.mono K0.out.2.1.size)).trans (hb2.mono (Nat.le_trans K0.out.2.1.size HF.out.2.size)))
    clear hb2
    go_wp2_with (refine wpList_store_row rfl 25 _ _ rfl w.heap.size (cellsI (List.replicate 35 0)) rfl rfl 25 _ KB2.out info35 rfl (cellsI_one _) ?_)
    refine bodyPost_ret (v := .tuple #[.agg (cellsI (List.replicate 35 0)), .int .i64 7]) ?_ rfl ⟨rfl, ?_⟩
    · exact results_row_tmp rfl _ _ w.heap.size 25 _ (0, 0) _ _ rfl rfl (KB2.out.row _) Tryd.underlying25 rfl info35
    · exact below_setRow HB2.out (Nat.le_refl _) _

theorem second35 (w : World) (n : Int) (ws : List Int) : Hid (Blk ((w.alloc (.cells (cellsI (List.replicate 35 0)) 25)).setRow w.heap.size (cellsI (cntI n 0 0 (List.replicate 32 0)))) w.heap.size (cellsI (cntI n (freeN ws 0) (usedN ws 0) (rowP ws 0 0))) 25 ∧ Below w.heap.size w ((w.alloc (.cells (cellsI (List.replicate 35 0)) 25)).setRow w.heap.size (cellsI (cntI n 0 0 (List.replicate 32 0))))) :=
  ⟨by rw [rowP_zero]; exact (Blk.new w _ _).row _, below_setRow ((Below.refl _ _).alloc (Nat.le_refl _) _) (Nat.le_refl _) _⟩
theorem cnt35 (n f u : Int) (ps : List Int) (h : ps.length = 32) : (cellsI (cntI n f u ps)).size = 35 := by rw [cellsI_size]; simp [cntI, h]
theorem cnt_get1 (n f u : Int) (ps : List Int) : (cellsI (cntI n f u ps))[1]? = some (.int .i64 f) := rfl
theorem cnt_get2 (n f u : Int) (ps : List Int) : (cellsI (cntI n f u ps))[2]? = some (.int .i64 u) := rfl
theorem cnt_getP (n f u : Int) (ps : List Int) (p : Nat) (h : p < ps.length) : (cellsI (cntI n f u ps))[3 + p]? = some (.int .i64 (ps.getD p 0)) := by
  rw [cellsI_get _ _ (by simp [cntI]; omega)]
  simp [cntI, List.getD, Nat.add_comm 3 p]
theorem cnt_set1 (n f u f' : Int) (ps : List Int) : (cntI n f u ps).set 1 f' = cntI n f' u ps := rfl
theorem cnt_set2 (n f u u' : Int) (ps : List Int) : (cntI n f u ps).set 2 u' = cntI n f u' ps := rfl
theorem cnt_setP (n f u x : Int) (ps : List Int) (p : Nat) : (cntI n f u ps).set (3 + p) x = cntI n f u (ps.set p x) := by
  simp [cntI, Nat.add_comm 3 p]
theorem word_nat (z : Int) (h : wordB z = true) : ∃ y : Nat, z = (y : Int) ∧ y ≤ 4294967295 := by
  simp [wordB] at h
  exact ⟨z.toNat, by omega, by omega⟩

set_option maxRecDepth 100000 in
set_option maxHeartbeats 2000000 in
theorem implC_good (v : Value) (ws : List Int) (w : World) (h : Rd .i64 w v ws) (hr : rightM ws = true) :
    Calls Tryd.prog 9 #[v] w fun e w' => e = .returned (.tuple #[.agg (cellsI (cntI ws.length (freeN ws ws.length) (usedN ws ws.length) (rowP ws ws.length 0))), .int .i64 0]) ∧ Below w.heap.size w w' := by
  have hm := h.len
  unfold maxLen at hm
  have hlen : ws.length ≤ 2048 := by
    unfold rightM sizeB at hr
    simp at hr
    omega
  have hlen2 : 64 ≤ ws.length := by
    unfold rightM sizeB at hr
    simp at hr
    omega
  have HW0 := hide (show ∀ k, k < ws.length → wordB (ws.getD k 0) = true from fun k hk => by
    unfold rightM at hr
    rw [Bool.and_eq_true] at hr
    have h1 := okTo_mono ws ws.length (k + 1) (by omega) hr.2
    have h2 : (okTo ws k && (wordB (ws.getD k 0) && headB k (ws.getD k 0))) = true := h1
    simp only [Bool.and_eq_true] at h2
    exact h2.2.1)
  have HG := hide h
  obtain ⟨b, off, cap, rfl, hbw, _, _, hcell⟩ := h.partsC (by omega)
  obtain ⟨W, hW, K0⟩ := first35 w
  have HW := hide hW
  have HCell := hide hcell
  clear hW h hcell
  go_enter Tryd.func9, Tryd.ntmps9
  go_wp2_with (go_at_call 23; fail)
  rw [← HW.out]
  refine (mapFault_any _ ws _ (HG.out.below K0.out.2.1)).mono ?_
  rintro e w1 ⟨ev, rfl, hf1, hb1⟩
  have kB := hide (K0.out.1.below hb1 K0.out.1.lt)
  rw [hr] at hf1
  rcases hf1 with ⟨_, rfl⟩ | ⟨hr', _⟩
  · have HB1 := hide (K0.out.2.1.trans (hb1.mono K0.out.2.1.size))
    have hbw1 : b < w1.heap.size := Nat.lt_of_lt_of_le hbw HB1.out.size
    have HC := hide (show ∀ w', Below w1.heap.size w1 w' → ∀ i, i < ws.length → w'.cell? ⟨b, off + i, none⟩ = some (.int .i64 (ws.getD i 0)) from fun w' hw' i hi => ((HB1.out.trans (hw'.mono HB1.out.size)).cell (p := ⟨b, off + i, none⟩) hbw).trans (HCell.out i hi))
    have HST := second35 w1 (ws.length : Int) ws
    have HZ0 := hide (cnt35 (ws.length : Int) 0 0 (List.replicate 32 0) (by simp))
    clear HCell hr hb1 HW
    go_wp2_with (refine wpList_store_row rfl 25 _ _ rfl w1.heap.size (cellsI (cntI (ws.length : Int) 0 0 (List.replicate 32 0))) rfl rfl 25 _ (Blk.new w1 (cellsI (List.replicate 35 0)) 25) (by rw [HZ0.out]; exact info35) (by rw [HZ0.out]; rfl) (cellsI_one _) ?_)
    generalize (Value.agg #[.int .i64 (ws.length : Int), .int .i64 0, .int .i64 0, .int .i64 0, .int .i64 0, .int .i64 0, .int .i64 0, .int .i64 0, .int .i64 0, .int .i64 0, .int .i64 0, .int .i64 0, .int .i64 0, .int .i64 0, .int .i64 0, .int .i64 0, .int .i64 0, .int .i64 0, .int .i64 0, .int .i64 0, .int .i64 0, .int .i64 0, .int .i64 0, .int .i64 0, .int .i64 0, .int .i64 0, .int .i64 0, .int .i64 0, .int .i64 0, .int .i64 0, .int .i64 0, .int .i64 0, .int .i64 0, .int .i64 0, .int .i64 0]) = sv
    go_loopw [21] (fun i wr => ∃ k : Nat, k ≤ ws.length ∧ i = .int .i64 k ∧ Blk wr w1.heap.size (cellsI (cntI ws.length (freeN ws k) (usedN ws k) (rowP ws k 0))) 25 ∧ Below w1.heap.size w1 wr) (fun i _ => ws.length - (intOf i).toNat)
    case atStart => exact ⟨0, by omega, rfl, HST.out.1, HST.out.2⟩
    case round =>
      obtain ⟨k, hk, rfl, hB, hbel⟩ := hrel
      have HK := hide (And.intro hB hbel)
      have hl1 := hB.lt
      clear hB hbel HST
      by_cases hlt : k < ws.length
      · have ck := HC.out wr HK.out.2 k hlt
        obtain ⟨y, hy, hy2⟩ := word_nat _ (HW0.out k hlt)
        rw [hy] at ck
        have HP := hide (show ∀ p, plN ws p (k + 1) = plN ws p k + bitN y p from fun p => by show plN ws p k + bitN (ws.getD k 0).toNat p = _; rw [hy]; rfl)
        have HPL := hide (show ∀ p, plN ws p k ≤ 2048 from fun p => Nat.le_trans (plN_le ws p k) (by omega))
        have HFU := hide (show (freeN ws (k + 1) = freeN ws k + if y = 0 then 1 else 0) ∧ (usedN ws (k + 1) = usedN ws k + if y = 0 then 0 else 1) from by
          by_cases e : y = 0
          · have e2 : ws.getD k 0 = 0 := by rw [hy, e]; rfl
            constructor
            · show freeN ws k + (if ws.getD k 0 = 0 then 1 else 0) = _
              rw [if_pos e2, if_pos e]
            · show usedN ws k + (if ws.getD k 0 = 0 then 0 else 1) = _
              rw [if_pos e2, if_pos e]
          · have e2 : ¬ ws.getD k 0 = 0 := by rw [hy]; omega
            constructor
            · show freeN ws k + (if ws.getD k 0 = 0 then 1 else 0) = _
              rw [if_neg e2, if_neg e]
            · show usedN ws k + (if ws.getD k 0 = 0 then 0 else 1) = _
              rw [if_neg e2, if_neg e])
        have hf2 : freeN ws k ≤ 2048 := Nat.le_trans (freeN_le ws k) (by omega)
        have hu2 : usedN ws k ≤ 2048 := Nat.le_trans (usedN_le ws k) (by omega)
        have d1 := (HK.out.1.cell 1).trans (cnt_get1 _ _ _ _)
        have d2 := (HK.out.1.cell 2).trans (cnt_get2 _ _ _ _)
        have g1 := HK.out.1.frozen 1
        have g2 := HK.out.1.frozen 2
        clear hy
        generalize freeN ws k = f at d1 hf2 HFU HK
        generalize usedN ws k = u at d2 hu2 HFU HK
        by_cases hz : y = 0
        · have HS := hide (show Blk (wr.setCell ⟨w1.heap.size, 1, none⟩ (.int .i64 ((f + 1 : Nat) : Int))) w1.heap.size (cellsI (cntI ws.length (freeN ws (k + 1)) (usedN ws (k + 1)) (rowP ws k 0))) 25 ∧ Below w1.heap.size w1 (wr.setCell ⟨w1.heap.size, 1, none⟩ (.int .i64 ((f + 1 : Nat) : Int))) from by
            have h1 := HK.out.1.set 1 (.int .i64 ((f + 1 : Nat) : Int))
            rw [cellsI_set, cnt_set1] at h1
            rw [HFU.out.1, HFU.out.2, if_pos hz, if_pos hz]
            exact ⟨h1, HK.out.2.setCell (p := ⟨w1.heap.size, 1, none⟩) (Nat.le_refl _) _⟩)
          have hq : ((y : Int) == 0) = true := by simp; omega
          clear hz HK
          go_wp2
          clear d1 d2 g1 g2
          obtain ⟨F, eF⟩ : ∃ F, F = freeN ws (k + 1) := ⟨_, rfl⟩
          obtain ⟨U, eU⟩ : ∃ U, U = usedN ws (k + 1) := ⟨_, rfl⟩
          rw [← eF, ← eU] at HS
          have HFU2 := hide (And.intro eF eU)
          clear eF eU HFU
          go_loopw [35] (fun i wq => ∃ p : Nat, p ≤ 32 ∧ i = .int .i64 p ∧ Blk wq w1.heap.size (cellsI (cntI ws.length F U (rowP ws k p))) 25 ∧ Below w1.heap.size w1 wq) (fun i _ => 32 - (intOf i).toNat)
          case atStart => exact ⟨0, by omega, rfl, HS.out.1, HS.out.2⟩
          case round =>
            obtain ⟨p, hp, rfl, hB2, hbel2⟩ := hrel
            clear HS
            by_cases hp2 : p < 32
            · have c3 := (hB2.cell (3 + p)).trans (cnt_getP _ _ _ _ p (by rw [rowP_len]; exact hp2))
              rw [rowP_get ws k p hp2] at c3
              have f3 := hB2.frozen (3 + p)
              have hx := HPL.out p
              have HS2 := hide (show Blk (wr.setCell ⟨w1.heap.size, 3 + p, none⟩ (.int .i64 ((plN ws p (k + 1) : Nat) : Int))) w1.heap.size (cellsI (cntI ws.length F U (rowP ws k (p + 1)))) 25 ∧ Below w1.heap.size w1 (wr.setCell ⟨w1.heap.size, 3 + p, none⟩ (.int .i64 ((plN ws p (k + 1) : Nat) : Int))) from by
                have h1 := hB2.set (3 + p) (.int .i64 ((plN ws p (k + 1) : Nat) : Int))
                rw [cellsI_set, cnt_setP, rowP_set ws k p hp2] at h1
                exact ⟨h1, hbel2.setCell (p := ⟨w1.heap.size, 3 + p, none⟩) (Nat.le_refl _) _⟩)
              rw [HP.out p] at HS2
              clear hB2 hbel2
              generalize plN ws p k = x at c3 hx HS2
              have HBI := hide (bit_i64 y p x hy2 hx)
              go_wp2
              go_region
              go_wp2
              rw [HBI.out]
              go_roundw
              case rel => exact ⟨p + 1, by omega, by go_num, HS2.out.1, HS2.out.2.drew⟩
              case measure => simp [intOf]; omega
            · have ep : p = 32 := by omega
              subst ep
              rw [rowP_end] at hB2
              have HE := hide (And.intro hB2 hbel2)
              clear hB2 hbel2
              go_wp2
              go_roundw
              case rel => exact ⟨k + 1, by omega, by go_num, by rw [← HFU2.out.1, ← HFU2.out.2]; exact HE.out.1, HE.out.2⟩
              case measure => simp [intOf]; omega
        · have HS := hide (show Blk (wr.setCell ⟨w1.heap.size, 2, none⟩ (.int .i64 ((u + 1 : Nat) : Int))) w1.heap.size (cellsI (cntI ws.length (freeN ws (k + 1)) (usedN ws (k + 1)) (rowP ws k 0))) 25 ∧ Below w1.heap.size w1 (wr.setCell ⟨w1.heap.size, 2, none⟩ (.int .i64 ((u + 1 : Nat) : Int))) from by
            have h1 := HK.out.1.set 2 (.int .i64 ((u + 1 : Nat) : Int))
            rw [cellsI_set, cnt_set2] at h1
            rw [HFU.out.1, HFU.out.2, if_neg hz, if_neg hz]
            exact ⟨h1, HK.out.2.setCell (p := ⟨w1.heap.size, 2, none⟩) (Nat.le_refl _) _⟩)
          have hq : ((y : Int) == 0) = false := by simp; omega
          clear hz HK
          go_wp2
          clear d1 d2 g1 g2
          obtain ⟨F, eF⟩ : ∃ F, F = freeN ws (k + 1) := ⟨_, rfl⟩
          obtain ⟨U, eU⟩ : ∃ U, U = usedN ws (k + 1) := ⟨_, rfl⟩
          rw [← eF, ← eU] at HS
          have HFU2 := hide (And.intro eF eU)
          clear eF eU HFU
          go_loopw [35] (fun i wq => ∃ p : Nat, p ≤ 32 ∧ i = .int .i64 p ∧ Blk wq w1.heap.size (cellsI (cntI ws.length F U (rowP ws k p))) 25 ∧ Below w1.heap.size w1 wq) (fun i _ => 32 - (intOf i).toNat)
          case atStart => exact ⟨0, by omega, rfl, HS.out.1, HS.out.2⟩
          case round =>
            obtain ⟨p, hp, rfl, hB2, hbel2⟩ := hrel
            clear HS
            by_cases hp2 : p < 32
            · have c3 := (hB2.cell (3 + p)).trans (cnt_getP _ _ _ _ p (by rw [rowP_len]; exact hp2))
              rw [rowP_get ws k p hp2] at c3
              have f3 := hB2.frozen (3 + p)
              have hx := HPL.out p
              have HS2 := hide (show Blk (wr.setCell ⟨w1.heap.size, 3 + p, none⟩ (.int .i64 ((plN ws p (k + 1) : Nat) : Int))) w1.heap.size (cellsI (cntI ws.length F U (rowP ws k (p + 1)))) 25 ∧ Below w1.heap.size w1 (wr.setCell ⟨w1.heap.size, 3 + p, none⟩ (.int .i64 ((plN ws p (k + 1) : Nat) : Int))) from by
                have h1 := hB2.set (3 + p) (.int .i64 ((plN ws p (k + 1) : Nat) : Int))
                rw [cellsI_set, cnt_setP, rowP_set ws k p hp2] at h1
                exact ⟨h1, hbel2.setCell (p := ⟨w1.heap.size, 3 + p, none⟩) (Nat.le_refl _) _⟩)
              rw [HP.out p] at HS2
              clear hB2 hbel2
              generalize plN ws p k = x at c3 hx HS2
              have HBI := hide (bit_i64 y p x hy2 hx)
              go_wp2
              go_region
              go_wp2
              rw [HBI.out]
              go_roundw
              case rel => exact ⟨p + 1, by omega, by go_num, HS2.out.1, HS2.out.2.drew⟩
              case measure => simp [intOf]; omega
            · have ep : p = 32 := by omega
              subst ep
              rw [rowP_end] at hB2
              have HE := hide (And.intro hB2 hbel2)
              clear hB2 hbel2
              go_wp2
              go_roundw
              case rel => exact ⟨k + 1, by omega, by go_num, by rw [← HFU2.out.1, ← HFU2.out.2]; exact HE.out.1, HE.out.2⟩
              case measure => simp [intOf]; omega
      · have ek : k = ws.length := by omega
        subst ek
        have HZ2 := hide (show (cellsI (cntI ws.length (freeN ws ws.length) (usedN ws ws.length) (rowP ws ws.length 0))).size = 35 from by rw [cellsI_size]; simp [cntI, rowP_len])
        have KB2 := hide (kB.out.below HK.out.2 kB.out.lt)
        have HLE := hide (show Below w.heap.size w wr from HB1.out.trans (HK.out.2.mono HB1.out.size))
        go_wp2_with (first | (refine wpList_load_row rfl 25 _ rfl w1.heap.size rfl 25 (cellsI (cntI ws.length (freeN ws ws.length) (usedN ws ws.length) (rowP ws ws.length 0))) (0, 0) _ HK.out.1 Tryd.underlying25 rfl (by rw [HZ2.out]; exact info35) ?_) | (refine wpList_store_row rfl 25 _ _ rfl w.heap.size (cellsI (cntI ws.length (freeN ws ws.length) (usedN ws ws.length) (rowP ws ws.length 0))) rfl rfl 25 _ KB2.out (by rw [HZ2.out]; exact info35) (by rw [HZ2.out]; rfl) (cellsI_one _) ?_))
        refine bodyPost_ret (v := .tuple #[.agg (cellsI (cntI ws.length (freeN ws ws.length) (usedN ws ws.length) (rowP ws ws.length 0))), .int .i64 0]) ?_ rfl ⟨rfl, ?_⟩
        · exact results_row_tmp rfl _ _ w.heap.size 25 _ (0, 0) _ _ rfl rfl (KB2.out.row _) Tryd.underlying25 rfl (by rw [HZ2.out]; exact info35)
        · exact below_setRow HLE.out (Nat.le_refl _) _
  · cases hr'

theorem implC_any (v : Value) (ws : List Int) (w : World) (h : Rd .i64 w v ws) (hg : ErrT w) :
    Calls Tryd.prog 9 #[v] w fun e w' => e = .returned (.tuple #[.agg (cellsI (cntM ws)), .int .i64 (codeM ws)]) ∧ Below w.heap.size w w' := by
  cases hr : rightM ws with
  | true =>
    rw [show codeM ws = 0 from by simp [codeM, hr], show cntM ws = cntI ws.length (freeN ws ws.length) (usedN ws ws.length) (rowP ws ws.length 0) from by simp [cntM, hr]]
    exact implC_good v ws w h hr
  | false =>
    rw [show codeM ws = 7 from by simp [codeM, hr], show cntM ws = List.replicate 35 0 from by simp [cntM, hr]]
    exact implC_bad v ws w h hg hr
end Go.Proofs.YtbgiccgfgljkbaaDoor
