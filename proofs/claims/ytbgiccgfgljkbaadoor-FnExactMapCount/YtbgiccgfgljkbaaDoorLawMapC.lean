/- The law on MapCount, walked: it answers true and turns nothing that was there. -/
import Derived.Test.YtbgiccgfgljkbaaDoorMapD
import Derived.Test.YtbgiccgfgljkbaaDoorApart
namespace Go.Proofs.YtbgiccgfgljkbaaDoor
set_option linter.unusedVariables false
set_option linter.unusedSimpArgs false
open Go.RowKit

theorem info32 : (Tryd.prog.info? 23).map (·.size) = some 32 := by kernel_rfl
set_option maxRecDepth 100000 in
set_option maxHeartbeats 2000000 in
theorem eqIntA32_same (ds : List Int) (w : World) (hd : ds.length = 32) :
    Calls Tryd.prog 25 #[.agg (cellsI ds), .agg (cellsI ds)] w fun e w' => e = .returned (.bool true) ∧ Below w.heap.size w w' := by
  have HD := hide hd
  clear hd
  go_enter Tryd.func25, Tryd.ntmps25
  go_wp2
  go_loopw [5] (fun i wr => ∃ k : Nat, k ≤ 32 ∧ i = .int .i64 k ∧ Blk wr w.heap.size (cellsI ds) 23 ∧ Blk wr (w.heap.size + 1) (cellsI ds) 23 ∧ Below w.heap.size w wr) (fun i _ => 32 - (intOf i).toNat)
  case atStart =>
    refine ⟨0, by omega, rfl, (Blk.new w _ _).alloc _, ?_, ((Below.refl _ _).alloc (Nat.le_refl _) _).alloc (by simp) _⟩
    have h := Blk.new (w.alloc (.cells (cellsI ds) 23)) (cellsI ds) 23
    rw [World.size_alloc] at h
    exact h
  case round =>
    obtain ⟨k, hk, rfl, h1, h2, hb⟩ := hrel
    by_cases hlt : k < 32
    · have c1 := h1.cell k
      rw [cellsI_get ds k (by rw [HD.out]; exact hlt)] at c1
      have c2 := h2.cell k
      rw [cellsI_get ds k (by rw [HD.out]; exact hlt)] at c2
      generalize ds.getD k 0 = z at c1 c2
      have HW := hide (And.intro h1 (And.intro h2 hb))
      clear h1 h2 hb
      go_wp2
      go_region
      go_wp2
      go_roundw
      case rel => exact ⟨k + 1, by omega, by go_num, HW.out.1, HW.out.2.1, HW.out.2.2.drew⟩
      case measure => simp [intOf]; omega
    · have hk32 : k = 32 := by omega
      subst hk32
      have HB := hide hb
      clear h1 h2 hb
      go_wp2
      go_ret
      exact ⟨rfl, HB.out⟩

set_option maxRecDepth 100000 in
set_option maxHeartbeats 1000000 in
theorem eqCounts_same (R : List Int) (hR : R.length = 35) (w : World) :
    Calls Tryd.prog 10 #[.agg (cellsI R), .agg (cellsI R)] w fun e w' => e = .returned (.bool true) ∧ Below w.heap.size w w' := by
  have HD := hide hR
  have k0 : Blk ((w.alloc (.cells (cellsI R) 25)).alloc (.cells (cellsI R) 25)) w.heap.size (cellsI R) 25 := (Blk.new w _ _).alloc _
  have k1 : Blk ((w.alloc (.cells (cellsI R) 25)).alloc (.cells (cellsI R) 25)) (w.heap.size + 1) (cellsI R) 25 := by
    have h := Blk.new (w.alloc (.cells (cellsI R) 25)) (cellsI R) 25
    rw [World.size_alloc] at h
    exact h
  have hb : Below w.heap.size w ((w.alloc (.cells (cellsI R) 25)).alloc (.cells (cellsI R) 25)) := ((Below.refl _ _).alloc (Nat.le_refl _) _).alloc (by simp) _
  have K := hide (And.intro k0 (And.intro k1 hb))
  have a0 := (k0.cell 0).trans (cellsI_get R 0 (by omega))
  have a1 := (k0.cell 1).trans (cellsI_get R 1 (by omega))
  have a2 := (k0.cell 2).trans (cellsI_get R 2 (by omega))
  have b0 := (k1.cell 0).trans (cellsI_get R 0 (by omega))
  have b1 := (k1.cell 1).trans (cellsI_get R 1 (by omega))
  have b2 := (k1.cell 2).trans (cellsI_get R 2 (by omega))
  generalize R.getD 0 0 = z0 at a0 b0
  generalize R.getD 1 0 = z1 at a1 b1
  generalize R.getD 2 0 = z2 at a2 b2
  obtain ⟨ds, hds⟩ : ∃ ds, ds = (R.drop 3).take 32 := ⟨_, rfl⟩
  have HP := hide (show ds.length = 32 from by rw [hds]; simp; omega)
  have r0 := k0.range 3 32 (by omega)
  have r1 := k1.range 3 32 (by omega)
  rw [← hds] at r0 r1
  have HR := hide (And.intro r0 r1)
  clear hR k0 k1 hb r0 r1 hds
  go_enter Tryd.func10, Tryd.ntmps10
  go_wp2_with (first
    | (refine wpList_load_mid rfl 23 _ rfl w.heap.size 3 rfl (ds.map (Value.int .i64)) _ HR.out.1 Tryd.underlying23 rfl (by rw [List.length_map, HP.out]; exact info32) ?_)
    | (refine wpList_load_mid rfl 23 _ rfl (w.heap.size + 1) 3 rfl (ds.map (Value.int .i64)) _ HR.out.2 Tryd.underlying23 rfl (by rw [List.length_map, HP.out]; exact info32) ?_)
    | (go_at_call 25; fail))
  refine (eqIntA32_same ds _ HP.out).mono ?_
  rintro e w1 ⟨rfl, b1⟩
  have B1 := hide (K.out.2.2.trans (b1.mono K.out.2.2.size))
  clear b1 a0 b0 a1 a2 b2
  go_wp2
  go_ret
  exact ⟨rfl, B1.out⟩

set_option maxRecDepth 100000 in
set_option maxHeartbeats 2000000 in
theorem lawMapC (v0 : Value) (ws : List Int) (w : World) (h : Rd .i64 w v0 ws) (hg : ErrT w) :
    Calls Tryd.prog 3 #[v0] w fun e w' => e = .returned (.bool true) ∧ Below w.heap.size w w' := by
  have hm := h.len
  unfold maxLen at hm
  have hsh : ∃ a cap, v0 = .slice a ws.length cap := by obtain ⟨a, cap, h1, _⟩ := h; exact ⟨a, cap, h1⟩
  obtain ⟨a0, cap0, rfl⟩ := hsh
  have H := hide (And.intro h hg)
  clear h hg
  by_cases hbig : (1048576 : Int) < (ws.length : Int)
  · go_enter Tryd.func3, Tryd.ntmps3
    go_wp2
    go_ret
    exact ⟨rfl, Below.refl _ _⟩
  · have hsm : ws.length ≤ 1048576 := by omega
    clear hbig
    have HS := hide (fun (v : Value) (w : World) (hr : Rd .i64 w v ws) => specC_any v ws w hr)
    have HI := hide (fun (v : Value) (w : World) (hr : Rd .i64 w v ws) (hg : ErrT w) => implC_any v ws w hr hg)
    have HL := hide (cntM_len ws)
    generalize cntM ws = R at HS HI HL
    generalize codeM ws = c at HS HI
    have HZ := hide (show (cellsI R).size = 35 from by rw [cellsI_size]; exact HL.out)
    have HQ := hide (eqCounts_same R HL.out)
    have hcc : (c != c) = false := by simp
    go_enter Tryd.func3, Tryd.ntmps3
    go_wp2_with fail
    refine (toIntS_any _ ws _ H.out.1 (by omega)).mono ?_
    rintro e w1 ⟨v1, rfl, o1, b1⟩
    have R1 := hide (Rd.own o1)
    have B1 := hide b1
    clear o1 b1
    go_wp2_with fail
    refine (HS.out v1 _ R1.out).mono ?_
    rintro e w2 ⟨rfl, b2⟩
    have B2 := hide (B1.out.trans (b2.mono B1.out.size))
    clear b2 R1 B1
    obtain ⟨W3, hW3', J3⟩ := first35 w2
    have HW3 := hide hW3'
    clear hW3'
    have K2 := hide (show Blk (W3.setRow w2.heap.size (cellsI R)) w2.heap.size (cellsI R) 25 ∧ Below w.heap.size w (W3.setRow w2.heap.size (cellsI R)) from ⟨J3.out.1.row _, below_setRow (B2.out.trans (J3.out.2.1.mono B2.out.size)) B2.out.size _⟩)
    go_wp2_with (first | (refine wpList_store_row rfl 25 _ _ rfl w2.heap.size (cellsI R) rfl rfl 25 _ (Blk.new w2 (cellsI (List.replicate 35 0)) 25) (by rw [HZ.out]; exact info35) (by rw [HZ.out]; rfl) (cellsI_one _) ?_) | (go_at_call 8; fail))
    rw [← HW3.out]
    generalize hW3 : (W3.setRow w2.heap.size (cellsI R)) = w3 at K2 ⊢
    clear hW3 HW3 J3
    refine (toIntS_any _ ws _ (H.out.1.below K2.out.2) (by omega)).mono ?_
    rintro e w4 ⟨x0, rfl, o4, b4⟩
    have X4 := hide o4
    have K4 := hide (And.intro (K2.out.1.below b4 K2.out.1.lt) (K2.out.2.trans (b4.mono K2.out.2.size)))
    clear o4 b4 K2
    go_wp2_with fail
    refine (HI.out x0 _ (Rd.own X4.out) (H.out.2.below K4.out.2)).mono ?_
    rintro e w5 ⟨rfl, b5⟩
    have X5 := hide (own_below X4.out b5)
    have K5 := hide (And.intro (K4.out.1.below b5 K4.out.1.lt) (K4.out.2.trans (b5.mono K4.out.2.size)))
    clear b5 K4 X4
    have hlt5 := K5.out.1.lt
    obtain ⟨W6, hW6', J6⟩ := first35 w5
    have HW6 := hide hW6'
    clear hW6'
    have K6 := hide (show Blk (W6.setRow w5.heap.size (cellsI R)) w5.heap.size (cellsI R) 25 ∧ Blk (W6.setRow w5.heap.size (cellsI R)) w2.heap.size (cellsI R) 25 ∧ Below w.heap.size w (W6.setRow w5.heap.size (cellsI R)) ∧ Below w5.heap.size w5 (W6.setRow w5.heap.size (cellsI R)) from ⟨J6.out.1.row _, (setRow_block _ _ _ _ (by omega)).trans (K5.out.1.below J6.out.2.1 K5.out.1.lt), below_setRow (K5.out.2.trans (J6.out.2.1.mono K5.out.2.size)) K5.out.2.size _, below_setRow J6.out.2.1 (Nat.le_refl _) _⟩)
    go_wp2_with (first | (refine wpList_store_row rfl 25 _ _ rfl w5.heap.size (cellsI R) rfl rfl 25 _ (Blk.new w5 (cellsI (List.replicate 35 0)) 25) (by rw [HZ.out]; exact info35) (by rw [HZ.out]; rfl) (cellsI_one _) ?_) | (refine wpList_load_row rfl 25 _ rfl w5.heap.size rfl 25 (cellsI R) (0, 0) _ (by rw [← HW6.out]; exact K6.out.1) Tryd.underlying25 rfl (by rw [HZ.out]; exact info35) ?_) | (refine wpList_load_row rfl 25 _ rfl w2.heap.size rfl 25 (cellsI R) (0, 0) _ (by rw [← HW6.out]; exact K6.out.2.1) Tryd.underlying25 rfl (by rw [HZ.out]; exact info35) ?_) | (go_at_call 10; fail))
    have X6 := hide (own_below X5.out K6.out.2.2.2)
    have B6 := hide K6.out.2.2.1
    rw [← HW6.out]
    generalize hW6 : (W6.setRow w5.heap.size (cellsI R)) = w6 at X6 B6 ⊢
    clear hW6 K6 X5
    refine (HQ.out _).mono ?_
    rintro e w7 ⟨rfl, b7⟩
    have X7 := hide (own_below X6.out b7)
    have B7 := hide (B6.out.trans (b7.mono B6.out.size))
    clear b7 X6 B6
    go_wp2_with fail
    refine (toIntS_any _ ws _ (H.out.1.below B7.out) (by omega)).mono ?_
    rintro e w8 ⟨t0, rfl, o8, b8⟩
    have T8 := hide (Rd.own o8)
    have X8 := hide (own_below X7.out b8)
    have B8 := hide (B7.out.trans (b8.mono B7.out.size))
    clear o8 b8 X7 B7
    go_wp2_with fail
    refine (eqIntS_same x0 t0 ws _ (Rd.own X8.out) T8.out).mono ?_
    rintro e w9 ⟨rfl, b9⟩
    have B9 := hide (B8.out.trans (b9.mono B8.out.size))
    clear b9 X8 B8 T8
    go_wp2
    go_ret
    exact ⟨rfl, B9.out⟩
end Go.Proofs.YtbgiccgfgljkbaaDoor
