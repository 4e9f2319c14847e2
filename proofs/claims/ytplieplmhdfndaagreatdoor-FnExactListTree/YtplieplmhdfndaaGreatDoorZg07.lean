/- The program's look at an inode: inodeFault. The program reads an inode: readInode. -/
import Derived.Test.YtplieplmhdfndaaGreatDoorZg06
import Derived.Test.YtplieplmhdfndaaGreatDoorZg05
import Derived.WalkKit
import Derived.Laws.RangeAny
namespace Go.Proofs.YtplieplmhdfndaaGreatDoor
set_option linter.unusedVariables false
set_option linter.unusedSimpArgs false
open Go.RowKit


set_option maxRecDepth 100000 in
set_option maxHeartbeats 2000000 in
theorem inodeFault_zero (k0 k1 k2 k3 k4 k5 k6 k7 k8 s : Int) (ds : List Int) (p q code : Int) (w : World) (hd : ds.length = 12) (hz : zeroB (inoI [k0, k1, k2, k3, k4, k5, k6, k7, k8] s ds p q) = true) :
    Calls Tryz.prog 143 #[.agg (cellsI (inoI [k0, k1, k2, k3, k4, k5, k6, k7, k8] s ds p q)), .int .i64 code] w fun e w' => e = .returned .nilIface ∧ Below w.heap.size w w' := by
  have HZB := hide hz
  have HZ := hide (show (cellsI (inoI [k0, k1, k2, k3, k4, k5, k6, k7, k8] s ds p q)).size = 24 from by rw [cellsI_size]; exact inoI_len _ _ _ _ _ rfl hd)
  have K0 := hide (And.intro (Blk.new w (cellsI (inoI [k0, k1, k2, k3, k4, k5, k6, k7, k8] s ds p q)) 228) (show Below w.heap.size w (w.alloc (.cells (cellsI (inoI [k0, k1, k2, k3, k4, k5, k6, k7, k8] s ds p q)) 228)) from (Below.refl _ _).alloc (Nat.le_refl _) _))
  have HE := hide (fun w => eqIno_zero w 9995 k0 k1 k2 k3 k4 k5 k6 k7 k8 s ds p q hd)
  clear hd hz
  go_enter Tryz.func143, Tryz.ntmps143
  go_wp2_with (first | (refine wpList_load_row rfl 228 _ rfl w.heap.size rfl 228 (cellsI (inoI [k0, k1, k2, k3, k4, k5, k6, k7, k8] s ds p q)) (0, 0) _ K0.out.1 Tryz.underlying228 rfl (by rw [HZ.out]; exact info24) ?_) | (refine wpList_eql rfl 228 _ _ _ rfl (cellsI (inoI [k0, k1, k2, k3, k4, k5, k6, k7, k8] s ds p q)) #[.int .i64 0, .int .i64 0, .int .i64 0, .int .i64 0, .int .i64 0, .int .i64 0, .int .i64 0, .int .i64 0, .int .i64 0, .int .i64 0, .int .i64 0, .int .i64 0, .int .i64 0, .int .i64 0, .int .i64 0, .int .i64 0, .int .i64 0, .int .i64 0, .int .i64 0, .int .i64 0, .int .i64 0, .int .i64 0, .int .i64 0, .int .i64 0] rfl rfl guardIno true (by rw [← HZB.out]; exact HE.out _) ?_))
  go_ret
  exact ⟨rfl, K0.out.2⟩

set_option maxRecDepth 100000 in
set_option maxHeartbeats 2000000 in
theorem inodeFault_some (k0 k1 k2 k3 k4 k5 k6 k7 k8 s : Int) (ds : List Int) (p q code : Int) (w : World) (hd : ds.length = 12) (hz : zeroB (inoI [k0, k1, k2, k3, k4, k5, k6, k7, k8] s ds p q) = false) :
    Calls Tryz.prog 143 #[.agg (cellsI (inoI [k0, k1, k2, k3, k4, k5, k6, k7, k8] s ds p q)), .int .i64 code] w fun e w' => ∃ ev, e = .returned ev ∧ FaultIs w' w.heap.size (fieldsB k0 k1 k2 k3 k4 k5 k6 k7 k8 && rightR s ds p q) ev code ∧ Below w.heap.size w w' := by
  have HD := hide hd
  have HZB := hide hz
  have HZ := hide (show (cellsI (inoI [k0, k1, k2, k3, k4, k5, k6, k7, k8] s ds p q)).size = 24 from by rw [cellsI_size]; exact inoI_len _ _ _ _ _ rfl hd)
  have HLen := hide (show (cellsI (rootI s ds p q)).size = 15 from by rw [cellsI_size]; exact rootI_len s ds p q HD.out)
  have K0 := hide (Blk.new w (cellsI (inoI [k0, k1, k2, k3, k4, k5, k6, k7, k8] s ds p q)) 228)
  have HE := hide (fun w => eqIno_zero w 9995 k0 k1 k2 k3 k4 k5 k6 k7 k8 s ds p q hd)
  have kB := (Blk.new w (cellsI (inoI [k0, k1, k2, k3, k4, k5, k6, k7, k8] s ds p q)) 228).alloc (.cells #[.int .i64 code, .nilIface] 127)
  have kC := Ck.fresh (w.alloc (.cells (cellsI (inoI [k0, k1, k2, k3, k4, k5, k6, k7, k8] s ds p q)) 228)) code 127
  rw [World.size_alloc] at kC
  have hb0 : Below w.heap.size w ((w.alloc (.cells (cellsI (inoI [k0, k1, k2, k3, k4, k5, k6, k7, k8] s ds p q)) 228)).alloc (.cells #[.int .i64 code, .nilIface] 127)) := ((Below.refl _ _).alloc (Nat.le_refl _) _).alloc (by simp) _
  have H0 := hide (show Kp w ((w.alloc (.cells (cellsI (inoI [k0, k1, k2, k3, k4, k5, k6, k7, k8] s ds p q)) 228)).alloc (.cells #[.int .i64 code, .nilIface] 127)) (cellsI (inoI [k0, k1, k2, k3, k4, k5, k6, k7, k8] s ds p q)) 228 code true from ⟨kB, kC, hb0⟩)
  have c0 : ((w.alloc (.cells (cellsI (inoI [k0, k1, k2, k3, k4, k5, k6, k7, k8] s ds p q)) 228)).alloc (.cells #[.int .i64 code, .nilIface] 127)).cell? ⟨w.heap.size, 0, none⟩ = some (.int .i64 k0) := (kB.cell 0).trans rfl
  have HF := hide (show fieldsB k0 k1 k2 k3 k4 k5 k6 k7 k8 = (wi k0 1 3 && wi k1 1 1000 && wi k2 0 4095 && wi k3 0 65535 && wi k4 0 65535 && parB k0 k5 && wi k6 1 1099511627776 && wi k7 1 1099511627776 && wi k8 1 1099511627776) from rfl)
  clear hd hz kB kC hb0
  by_cases hk : k0 = 2
  · have hk2 : (k0 == 2) = true := by simp [hk]
    have HP := hide (show parB k0 k5 = wi k5 1 1000 from by unfold parB; rw [if_pos hk])
    clear hk
    go_enter Tryz.func143, Tryz.ntmps143
    go_wp2_with (first | (refine wpList_load_row rfl 228 _ rfl w.heap.size rfl 228 (cellsI (inoI [k0, k1, k2, k3, k4, k5, k6, k7, k8] s ds p q)) (0, 0) _ K0.out Tryz.underlying228 rfl (by rw [HZ.out]; exact info24) ?_) | (refine wpList_eql rfl 228 _ _ _ rfl (cellsI (inoI [k0, k1, k2, k3, k4, k5, k6, k7, k8] s ds p q)) #[.int .i64 0, .int .i64 0, .int .i64 0, .int .i64 0, .int .i64 0, .int .i64 0, .int .i64 0, .int .i64 0, .int .i64 0, .int .i64 0, .int .i64 0, .int .i64 0, .int .i64 0, .int .i64 0, .int .i64 0, .int .i64 0, .int .i64 0, .int .i64 0, .int .i64 0, .int .i64 0, .int .i64 0, .int .i64 0, .int .i64 0, .int .i64 0] rfl rfl guardIno false (by rw [← HZB.out]; exact HE.out _) ?_) | (go_at_call 95; fail))
    refine (within_any (w.heap.size + 1) (w.heap.size + 1 + 1) _ code k0 1 3 _ _ H0.out.ck (by omega) H0.out.lo).mono ?_
    rintro e w1 ⟨rfl, hc1, ht1⟩
    rw [Bool.true_and] at hc1
    have H1 := hide (H0.out.tch hc1 ht1)
    clear hc1 ht1 H0 c0 K0 
    have c1 := (H1.out.blk.cell 1).trans (show (cellsI (inoI [k0, k1, k2, k3, k4, k5, k6, k7, k8] s ds p q))[1]? = some (.int .i64 k1) from rfl)
    go_wp2_with (go_at_call 95; fail)
    refine (within_any (w.heap.size + 1) (w.heap.size + 1 + 1) _ code k1 1 1000 _ _ H1.out.ck (by omega) H1.out.lo).mono ?_
    rintro e w2 ⟨rfl, hc2, ht2⟩
    have H2 := hide (H1.out.tch hc2 ht2)
    clear hc2 ht2 H1 c1 
    have c2 := (H2.out.blk.cell 2).trans (show (cellsI (inoI [k0, k1, k2, k3, k4, k5, k6, k7, k8] s ds p q))[2]? = some (.int .i64 k2) from rfl)
    go_wp2_with (go_at_call 95; fail)
    refine (within_any (w.heap.size + 1) (w.heap.size + 1 + 1) _ code k2 0 4095 _ _ H2.out.ck (by omega) H2.out.lo).mono ?_
    rintro e w3 ⟨rfl, hc3, ht3⟩
    have H3 := hide (H2.out.tch hc3 ht3)
    clear hc3 ht3 H2 c2 
    have c3 := (H3.out.blk.cell 3).trans (show (cellsI (inoI [k0, k1, k2, k3, k4, k5, k6, k7, k8] s ds p q))[3]? = some (.int .i64 k3) from rfl)
    go_wp2_with (go_at_call 95; fail)
    refine (within_any (w.heap.size + 1) (w.heap.size + 1 + 1) _ code k3 0 65535 _ _ H3.out.ck (by omega) H3.out.lo).mono ?_
    rintro e w4 ⟨rfl, hc4, ht4⟩
    have H4 := hide (H3.out.tch hc4 ht4)
    clear hc4 ht4 H3 c3 
    have c4 := (H4.out.blk.cell 4).trans (show (cellsI (inoI [k0, k1, k2, k3, k4, k5, k6, k7, k8] s ds p q))[4]? = some (.int .i64 k4) from rfl)
    go_wp2_with (go_at_call 95; fail)
    refine (within_any (w.heap.size + 1) (w.heap.size + 1 + 1) _ code k4 0 65535 _ _ H4.out.ck (by omega) H4.out.lo).mono ?_
    rintro e w5 ⟨rfl, hc5, ht5⟩
    have H5 := hide (H4.out.tch hc5 ht5)
    clear hc5 ht5 H4 c4 
    have c0 := (H5.out.blk.cell 0).trans (show (cellsI (inoI [k0, k1, k2, k3, k4, k5, k6, k7, k8] s ds p q))[0]? = some (.int .i64 k0) from rfl)
    have c5 := (H5.out.blk.cell 5).trans (show (cellsI (inoI [k0, k1, k2, k3, k4, k5, k6, k7, k8] s ds p q))[5]? = some (.int .i64 k5) from rfl)
    go_wp2_with (go_at_call 95; fail)
    refine (within_any (w.heap.size + 1) (w.heap.size + 1 + 1) _ code k5 1 1000 _ _ H5.out.ck (by omega) H5.out.lo).mono ?_
    rintro e w6 ⟨rfl, hc6, ht6⟩
    have H6 := hide (H5.out.tch hc6 ht6)
    clear hc6 ht6 H5 c5  c0
    have c6 := (H6.out.blk.cell 6).trans (show (cellsI (inoI [k0, k1, k2, k3, k4, k5, k6, k7, k8] s ds p q))[6]? = some (.int .i64 k6) from rfl)
    go_wp2_with (go_at_call 95; fail)
    refine (within_any (w.heap.size + 1) (w.heap.size + 1 + 1) _ code k6 1 1099511627776 _ _ H6.out.ck (by omega) H6.out.lo).mono ?_
    rintro e w7 ⟨rfl, hc7, ht7⟩
    have H7 := hide (H6.out.tch hc7 ht7)
    clear hc7 ht7 H6 c6 
    have c7 := (H7.out.blk.cell 7).trans (show (cellsI (inoI [k0, k1, k2, k3, k4, k5, k6, k7, k8] s ds p q))[7]? = some (.int .i64 k7) from rfl)
    go_wp2_with (go_at_call 95; fail)
    refine (within_any (w.heap.size + 1) (w.heap.size + 1 + 1) _ code k7 1 1099511627776 _ _ H7.out.ck (by omega) H7.out.lo).mono ?_
    rintro e w8 ⟨rfl, hc8, ht8⟩
    have H8 := hide (H7.out.tch hc8 ht8)
    clear hc8 ht8 H7 c7 
    have c8 := (H8.out.blk.cell 8).trans (show (cellsI (inoI [k0, k1, k2, k3, k4, k5, k6, k7, k8] s ds p q))[8]? = some (.int .i64 k8) from rfl)
    go_wp2_with (go_at_call 95; fail)
    refine (within_any (w.heap.size + 1) (w.heap.size + 1 + 1) _ code k8 1 1099511627776 _ _ H8.out.ck (by omega) H8.out.lo).mono ?_
    rintro e w9 ⟨rfl, hc9, ht9⟩
    have H9 := hide (H8.out.tch hc9 ht9)
    clear hc9 ht9 H8 c8 
    have HR := hide (ino_range k0 k1 k2 k3 k4 k5 k6 k7 k8 s ds p q HD.out H9.out.blk)
    go_wp2_with (first | (refine wpList_load_mid rfl 226 _ rfl w.heap.size 9 rfl ((rootI s ds p q).map (Value.int .i64)) _ HR.out Tryz.underlying226 rfl (by rw [List.length_map, ← cellsI_size, HLen.out]; exact info15) ?_) | (go_at_call 177; fail))
    refine (rootFault_any s ds p q code _ HD.out).mono ?_
    rintro e w10 ⟨ev10, rfl, hf10, hb10⟩
    have H10 := hide (And.intro (H9.out.below hb10) (And.intro hf10 (And.intro H9.out.lo hb10.size)))
    clear hf10 hb10 HR
    go_wp2_with fail
    refine (inside_fault w w9 w10 _ _ code _ _ _ ev10 H10.out.1 H10.out.2.2.1 H10.out.2.2.2 H10.out.2.1).mono ?_
    rintro e w11 ⟨rfl, hk11⟩
    have H11 := hide hk11
    obtain ⟨ev, c11, hf11⟩ := H11.out.fault
    have HV := hide (show FaultIs w11 w.heap.size (fieldsB k0 k1 k2 k3 k4 k5 k6 k7 k8 && rightR s ds p q) ev code from by rw [HF.out, HP.out]; exact hf11)
    clear hk11 hf11 H10 H9
    go_wp2
    go_ret
    exact ⟨ev, rfl, HV.out, H11.out.old⟩
  · have hk2 : (k0 == 2) = false := by simp [hk]
    have HP := hide (show parB k0 k5 = (k5 == 0) from by unfold parB; rw [if_neg hk])
    clear hk
    go_enter Tryz.func143, Tryz.ntmps143
    go_wp2_with (first | (refine wpList_load_row rfl 228 _ rfl w.heap.size rfl 228 (cellsI (inoI [k0, k1, k2, k3, k4, k5, k6, k7, k8] s ds p q)) (0, 0) _ K0.out Tryz.underlying228 rfl (by rw [HZ.out]; exact info24) ?_) | (refine wpList_eql rfl 228 _ _ _ rfl (cellsI (inoI [k0, k1, k2, k3, k4, k5, k6, k7, k8] s ds p q)) #[.int .i64 0, .int .i64 0, .int .i64 0, .int .i64 0, .int .i64 0, .int .i64 0, .int .i64 0, .int .i64 0, .int .i64 0, .int .i64 0, .int .i64 0, .int .i64 0, .int .i64 0, .int .i64 0, .int .i64 0, .int .i64 0, .int .i64 0, .int .i64 0, .int .i64 0, .int .i64 0, .int .i64 0, .int .i64 0, .int .i64 0, .int .i64 0] rfl rfl guardIno false (by rw [← HZB.out]; exact HE.out _) ?_) | (go_at_call 95; fail))
    refine (within_any (w.heap.size + 1) (w.heap.size + 1 + 1) _ code k0 1 3 _ _ H0.out.ck (by omega) H0.out.lo).mono ?_
    rintro e w1 ⟨rfl, hc1, ht1⟩
    rw [Bool.true_and] at hc1
    have H1 := hide (H0.out.tch hc1 ht1)
    clear hc1 ht1 H0 c0 K0 
    have c1 := (H1.out.blk.cell 1).trans (show (cellsI (inoI [k0, k1, k2, k3, k4, k5, k6, k7, k8] s ds p q))[1]? = some (.int .i64 k1) from rfl)
    go_wp2_with (go_at_call 95; fail)
    refine (within_any (w.heap.size + 1) (w.heap.size + 1 + 1) _ code k1 1 1000 _ _ H1.out.ck (by omega) H1.out.lo).mono ?_
    rintro e w2 ⟨rfl, hc2, ht2⟩
    have H2 := hide (H1.out.tch hc2 ht2)
    clear hc2 ht2 H1 c1 
    have c2 := (H2.out.blk.cell 2).trans (show (cellsI (inoI [k0, k1, k2, k3, k4, k5, k6, k7, k8] s ds p q))[2]? = some (.int .i64 k2) from rfl)
    go_wp2_with (go_at_call 95; fail)
    refine (within_any (w.heap.size + 1) (w.heap.size + 1 + 1) _ code k2 0 4095 _ _ H2.out.ck (by omega) H2.out.lo).mono ?_
    rintro e w3 ⟨rfl, hc3, ht3⟩
    have H3 := hide (H2.out.tch hc3 ht3)
    clear hc3 ht3 H2 c2 
    have c3 := (H3.out.blk.cell 3).trans (show (cellsI (inoI [k0, k1, k2, k3, k4, k5, k6, k7, k8] s ds p q))[3]? = some (.int .i64 k3) from rfl)
    go_wp2_with (go_at_call 95; fail)
    refine (within_any (w.heap.size + 1) (w.heap.size + 1 + 1) _ code k3 0 65535 _ _ H3.out.ck (by omega) H3.out.lo).mono ?_
    rintro e w4 ⟨rfl, hc4, ht4⟩
    have H4 := hide (H3.out.tch hc4 ht4)
    clear hc4 ht4 H3 c3 
    have c4 := (H4.out.blk.cell 4).trans (show (cellsI (inoI [k0, k1, k2, k3, k4, k5, k6, k7, k8] s ds p q))[4]? = some (.int .i64 k4) from rfl)
    go_wp2_with (go_at_call 95; fail)
    refine (within_any (w.heap.size + 1) (w.heap.size + 1 + 1) _ code k4 0 65535 _ _ H4.out.ck (by omega) H4.out.lo).mono ?_
    rintro e w5 ⟨rfl, hc5, ht5⟩
    have H5 := hide (H4.out.tch hc5 ht5)
    clear hc5 ht5 H4 c4 
    have c0 := (H5.out.blk.cell 0).trans (show (cellsI (inoI [k0, k1, k2, k3, k4, k5, k6, k7, k8] s ds p q))[0]? = some (.int .i64 k0) from rfl)
    have c5 := (H5.out.blk.cell 5).trans (show (cellsI (inoI [k0, k1, k2, k3, k4, k5, k6, k7, k8] s ds p q))[5]? = some (.int .i64 k5) from rfl)
    go_wp2_with (go_at_call 86; fail)
    refine (need_any (w.heap.size + 1) (w.heap.size + 1 + 1) _ code _ (k5 == 0) _ H5.out.ck (by omega) H5.out.lo).mono ?_
    rintro e w6 ⟨rfl, hc6, ht6⟩
    have H6 := hide (H5.out.tch hc6 ht6)
    clear hc6 ht6 H5 c5  c0
    have c6 := (H6.out.blk.cell 6).trans (show (cellsI (inoI [k0, k1, k2, k3, k4, k5, k6, k7, k8] s ds p q))[6]? = some (.int .i64 k6) from rfl)
    go_wp2_with (go_at_call 95; fail)
    refine (within_any (w.heap.size + 1) (w.heap.size + 1 + 1) _ code k6 1 1099511627776 _ _ H6.out.ck (by omega) H6.out.lo).mono ?_
    rintro e w7 ⟨rfl, hc7, ht7⟩
    have H7 := hide (H6.out.tch hc7 ht7)
    clear hc7 ht7 H6 c6 
    have c7 := (H7.out.blk.cell 7).trans (show (cellsI (inoI [k0, k1, k2, k3, k4, k5, k6, k7, k8] s ds p q))[7]? = some (.int .i64 k7) from rfl)
    go_wp2_with (go_at_call 95; fail)
    refine (within_any (w.heap.size + 1) (w.heap.size + 1 + 1) _ code k7 1 1099511627776 _ _ H7.out.ck (by omega) H7.out.lo).mono ?_
    rintro e w8 ⟨rfl, hc8, ht8⟩
    have H8 := hide (H7.out.tch hc8 ht8)
    clear hc8 ht8 H7 c7 
    have c8 := (H8.out.blk.cell 8).trans (show (cellsI (inoI [k0, k1, k2, k3, k4, k5, k6, k7, k8] s ds p q))[8]? = some (.int .i64 k8) from rfl)
    go_wp2_with (go_at_call 95; fail)
    refine (within_any (w.heap.size + 1) (w.heap.size + 1 + 1) _ code k8 1 1099511627776 _ _ H8.out.ck (by omega) H8.out.lo).mono ?_
    rintro e w9 ⟨rfl, hc9, ht9⟩
    have H9 := hide (H8.out.tch hc9 ht9)
    clear hc9 ht9 H8 c8 
    have HR := hide (ino_range k0 k1 k2 k3 k4 k5 k6 k7 k8 s ds p q HD.out H9.out.blk)
    go_wp2_with (first | (refine wpList_load_mid rfl 226 _ rfl w.heap.size 9 rfl ((rootI s ds p q).map (Value.int .i64)) _ HR.out Tryz.underlying226 rfl (by rw [List.length_map, ← cellsI_size, HLen.out]; exact info15) ?_) | (go_at_call 177; fail))
    refine (rootFault_any s ds p q code _ HD.out).mono ?_
    rintro e w10 ⟨ev10, rfl, hf10, hb10⟩
    have H10 := hide (And.intro (H9.out.below hb10) (And.intro hf10 (And.intro H9.out.lo hb10.size)))
    clear hf10 hb10 HR
    go_wp2_with fail
    refine (inside_fault w w9 w10 _ _ code _ _ _ ev10 H10.out.1 H10.out.2.2.1 H10.out.2.2.2 H10.out.2.1).mono ?_
    rintro e w11 ⟨rfl, hk11⟩
    have H11 := hide hk11
    obtain ⟨ev, c11, hf11⟩ := H11.out.fault
    have HV := hide (show FaultIs w11 w.heap.size (fieldsB k0 k1 k2 k3 k4 k5 k6 k7 k8 && rightR s ds p q) ev code from by rw [HF.out, HP.out]; exact hf11)
    clear hk11 hf11 H10 H9
    go_wp2
    go_ret
    exact ⟨ev, rfl, HV.out, H11.out.old⟩

theorem inodeFault_any (k0 k1 k2 k3 k4 k5 k6 k7 k8 s : Int) (ds : List Int) (p q code : Int) (w : World) (hd : ds.length = 12) :
    Calls Tryz.prog 143 #[.agg (cellsI (inoI [k0, k1, k2, k3, k4, k5, k6, k7, k8] s ds p q)), .int .i64 code] w fun e w' => ∃ ev, e = .returned ev ∧ FaultIs w' w.heap.size (rightIno k0 k1 k2 k3 k4 k5 k6 k7 k8 s ds p q) ev code ∧ Below w.heap.size w w' := by
  cases hz : zeroB (inoI [k0, k1, k2, k3, k4, k5, k6, k7, k8] s ds p q) with
  | true =>
    refine (inodeFault_zero k0 k1 k2 k3 k4 k5 k6 k7 k8 s ds p q code w hd hz).mono ?_
    rintro e w' ⟨rfl, hb⟩
    exact ⟨.nilIface, rfl, .inl ⟨by unfold rightIno; rw [hz, Bool.true_or], rfl⟩, hb⟩
  | false =>
    have h := inodeFault_some k0 k1 k2 k3 k4 k5 k6 k7 k8 s ds p q code w hd hz
    unfold rightIno
    rw [hz, Bool.false_or]
    exact h
end Go.Proofs.YtplieplmhdfndaaGreatDoor

namespace Go.Proofs.YtplieplmhdfndaaGreatDoor
set_option linter.unusedVariables false
set_option linter.unusedSimpArgs false
open Go.RowKit

theorem Flt.storeC {w : World} {lo g o : Nat} {y c : Int} {x : Value} (hy : w.cell? ⟨g, o, none⟩ = some (.int .i64 y)) (hne : y ≠ c) : ∀ {n : Nat} {v : Value}, Flt w lo n v c → Flt (w.setCell ⟨g, o, none⟩ x) lo n v c
  | 0, _, ⟨b, h, hl, hc⟩ => by
    refine ⟨b, h, hl, (World.cell?_setCell_other _ _ _ _ ?_).trans hc⟩
    intro e
    rw [e, hc] at hy
    injection hy with hy
    injection hy with _ hy
    exact hne hy.symm
  | _ + 1, _, ⟨b, v', h, hl, hc, hr⟩ => by
    refine ⟨b, v', h, hl, (World.cell?_setCell_other _ _ _ _ ?_).trans hc, Flt.storeC hy hne hr⟩
    intro e
    rw [e, hc] at hy
    obtain ⟨t, z, rfl⟩ := hr.iface
    cases hy
/-- A reader is kept behind a write to a cell that held an integer other than 21. -/
theorem Rdr.storeC {w0 w : World} {b lo : Nat} {ok : Bool} {dv : Value} {zs : List Int} {pos g o : Nat} {y : Int} (x : Value) (h : Rdr w0 w b lo ok dv zs pos) (hg : b < g) (hy : w.cell? ⟨g, o, none⟩ = some (.int .i64 y)) (hne : y ≠ 21) : Rdr w0 (w.setCell ⟨g, o, none⟩ x) b lo ok dv zs pos := by
  have hne2 : ∀ o', (⟨g, o, none⟩ : Addr) ≠ ⟨b, o', none⟩ := fun o' e => by injection e with e1 e2; omega
  have hc : ∀ o', (w.setCell ⟨g, o, none⟩ x).cell? ⟨b, o', none⟩ = w.cell? ⟨b, o', none⟩ := fun o' => World.cell?_setCell_other _ _ _ _ (hne2 o')
  obtain ⟨c1, c2, ev, c3, c4⟩ := h.ck
  refine ⟨⟨(hc 0).trans c1, by simpa using c2, ev, (hc 1).trans c3, ?_⟩, (hc 2).trans h.data, (hc 3).trans h.at_, by simpa using h.fr, h.old.setCell (p := ⟨g, o, none⟩) (Nat.le_of_lt hg) _, h.size, h.rd, h.le, h.lo1, by simpa using h.lo2⟩
  rcases c4 with c4 | ⟨c4, n, c5⟩
  · exact .inl c4
  · exact .inr ⟨c4, n, c5.storeC hy hne⟩
/-- How far a reader came that began at 0: m bytes asked for, C the looks that came so far. -/
def AdvC (zs : List Int) (m : Nat) (C : Bool) (okr : Bool) (pr : Nat) : Prop := pr ≤ m ∧ (okr = true ↔ (m ≤ zs.length ∧ C = true)) ∧ (okr = true → pr = m)
theorem AdvC.start (zs : List Int) : AdvC zs 0 true true 0 := ⟨Nat.le_refl _, ⟨fun _ => ⟨Nat.zero_le _, rfl⟩, fun _ => rfl⟩, fun _ => rfl⟩
def allz (ts : List Int) : Bool := ts.all fun z => decide (z = 0)
theorem AdvC.zeros {okr : Bool} {zs : List Int} {m pr m2 : Nat} {C : Bool} {w0 w w' : World} {b lo : Nat} {dv : Value} (h : AdvC zs m C okr pr) (hm : m ≤ m2) (hn : Zd w0 w w' b lo okr dv zs pr m2) :
    ∃ ok2 p2, Rdr w0 w' b lo ok2 dv zs p2 ∧ AdvC zs m2 (C && allz ((zs.drop m).take (m2 - m))) ok2 p2 ∧ (ok2 = true → okr = true) ∧ w.grownBy w' (some b) := by
  obtain ⟨hg, hn⟩ := hn
  obtain ⟨h1, h2, h3⟩ := h
  rcases hn with ⟨ho, hle, hr⟩ | ⟨hno, hr⟩
  · have hpm := h3 ho
    subst hpm
    have hC := (h2.1 ho).2
    exact ⟨_, _, hr, ⟨Nat.le_refl _, ⟨fun hz => ⟨hle, by rw [hC, Bool.true_and]; exact hz⟩, fun hz => by rw [hC, Bool.true_and] at hz; exact hz.2⟩, fun _ => rfl⟩, fun _ => ho, hg⟩
  · refine ⟨false, _, hr, ⟨by omega, ⟨(fun h => absurd h (by decide)), fun h => ?_⟩, (fun h => absurd h (by decide))⟩, (fun h => absurd h (by decide)), hg⟩
    rw [Bool.and_eq_true] at h
    have ho := h2.2 ⟨by omega, h.2.1⟩
    exact absurd ⟨ho, h.1⟩ hno
/-- What the reading keeps: the result's block, the inode so far, the reader. -/
structure Ri (w0 w wr : World) (b lo : Nat) (dv : Value) (zs : List Int) (g : Nat) (xs : List Int) (okr : Bool) (pr : Nat) : Prop where
  rdr : Rdr w0 wr b lo okr dv zs pr
  res : Blk wr w.heap.size (cellsI (List.replicate 24 0)) 228
  blk : Blk wr g (cellsI xs) 228
  old : w.grownBy wr (some b)
theorem Ri.set {w0 w wr : World} {b lo : Nat} {dv : Value} {zs : List Int} {g : Nat} {xs : List Int} {okr : Bool} {pr : Nat} (h : Ri w0 w wr b lo dv zs g xs okr pr) (hg : w.heap.size < g) (hb : b < w.heap.size) (o : Nat) (x y : Int) (hy : (cellsI xs)[o]? = some (.int .i64 y)) (hne : y ≠ 21) : Ri w0 w (wr.setCell ⟨g, o, none⟩ (.int .i64 x)) b lo dv zs g (xs.set o x) okr pr := by
  refine ⟨h.rdr.storeC _ (by omega) ((h.blk.cell o).trans hy) hne, h.res.other _ _ (by show w.heap.size ≠ g; omega), ?_, grow_set h.old _ _ _ (by omega)⟩
  have h2 := h.blk.set o (.int .i64 x)
  rw [cellsI_set] at h2
  exact h2
theorem Ri.next {w0 w wr w' : World} {b lo : Nat} {dv : Value} {zs : List Int} {g : Nat} {xs : List Int} {okr ok2 : Bool} {pr p2 : Nat} (h : Ri w0 w wr b lo dv zs g xs okr pr) (hg : w.heap.size < g) (hb : b < w.heap.size) (hr : Rdr w0 w' b lo ok2 dv zs p2) (hgr : wr.grownBy w' (some b)) : Ri w0 w w' b lo dv zs g xs ok2 p2 :=
  ⟨hr, (hgr.block _ h.res.lt (by simp; omega)).trans h.res, (hgr.block _ h.blk.lt (by simp; omega)).trans h.blk, grownBy_trans h.old hgr⟩

end Go.Proofs.YtplieplmhdfndaaGreatDoor

namespace Go.Proofs.YtplieplmhdfndaaGreatDoor.Chk
open Go

def isBad (b : UInt8) : Bool := b == 47 || b == 0
def anyBad (l : List UInt8) : Bool := l.any isBad
theorem isBad_iff (b : UInt8) : isBad b = true ↔ b.toNat = 47 ∨ b.toNat = 0 := by
  unfold isBad
  simp only [Bool.or_eq_true, beq_iff_eq]
  constructor
  · rintro (rfl | rfl) <;> simp
  · rintro (h | h)
    · left; exact UInt8.toNat_inj.mp (by simpa using h)
    · right; exact UInt8.toNat_inj.mp (by simpa using h)

theorem anyBad_snoc (s : ByteArray) (k : Nat) (h : k < s.size) : anyBad (s.data.toList.take (k + 1)) = (anyBad (s.data.toList.take k) || isBad s[k]) := by
  unfold anyBad
  rw [List.take_succ_eq_append_getElem (by simpa using h)]
  simp
  rfl

theorem anyBad_of_get (s : ByteArray) (k : Nat) (h : k < s.size) (hb : isBad s[k] = true) : anyBad s.data.toList = true := by
  unfold anyBad
  rw [List.any_eq_true]
  exact ⟨s[k], by simp [ByteArray.getElem_eq_getElem_data], hb⟩

theorem anyBad_end (s : ByteArray) (k : Nat) (h : ¬ k < s.size) : anyBad (s.data.toList.take k) = anyBad s.data.toList := by
  rw [List.take_of_length_le]
  simp; simpa using h

theorem get_k (s : ByteArray) (p : Nat) (h : p < s.size) : s.get! p = s[p]'h := by
  simp [ByteArray.get!, getElem!_pos, h]
  rfl

/-- Bytes that a rune of more than a byte takes are all high. -/
theorem decode_cont (s : ByteArray) (pos : Nat) (h : pos < s.size) (ha : 128 ≤ (s[pos]'h).toNat) (j : Nat) (hj : j < (Utf8.decode s pos).2) :
    ∃ hp : pos + j < s.size, 128 ≤ (s[pos + j]'hp).toNat := by
  by_cases hj0 : j = 0
  · subst hj0; exact ⟨h, ha⟩
  have key : pos + j < s.size ∧ (s.get! (pos + j)).toNat / 64 = 2 := by
    have hn : ¬ (s[pos]'h).toNat < 128 := by omega
    simp only [Utf8.decode, get_at s pos h, hn, if_false] at hj
    repeat' split at hj
    all_goals simp_all
    all_goals first | omega | skip
    · obtain rfl : j = 1 := by omega
      simp_all
    · have : j = 1 ∨ j = 2 := by omega
      rcases this with rfl | rfl <;> simp_all
    · have : j = 1 ∨ j = 2 ∨ j = 3 := by omega
      rcases this with rfl | rfl | rfl <;> simp_all
  refine ⟨key.1, ?_⟩
  have := key.2
  rw [get_k s _ key.1] at this
  omega

theorem isBad_high (b : UInt8) (h : 128 ≤ b.toNat) : isBad b = false := by
  cases hb : isBad b with
  | false => rfl
  | true => rw [isBad_iff] at hb; omega

theorem anyBad_more (s : ByteArray) (pos n : Nat) (h0 : anyBad (s.data.toList.take pos) = false) (h : ∀ j, j < n → ∃ hp : pos + j < s.size, isBad (s[pos + j]'hp) = false) :
    anyBad (s.data.toList.take (pos + n)) = false := by
  induction n with
  | zero => exact h0
  | succ n ih =>
    obtain ⟨hp, hb⟩ := h n (by omega)
    rw [← Nat.add_assoc, anyBad_snoc s (pos + n) hp, ih (fun j hj => h j (by omega)), hb]
    rfl

/-- One rune that is neither of the two leads on. -/
theorem step_rune (s : ByteArray) (pos : Nat) (hp : pos < s.size) (h0 : anyBad (s.data.toList.take pos) = false)
    (h1 : ¬ ((Utf8.decode s pos).1 : Int) = 47) (h2 : ¬ ((Utf8.decode s pos).1 : Int) = 0) : anyBad (s.data.toList.take (pos + (Utf8.decode s pos).2)) = false := by
  by_cases ha : (s[pos]'hp).toNat < 128
  · rw [decode_ascii s pos hp ha] at h1 h2 ⊢
    rw [anyBad_snoc s pos hp, h0]
    cases hb : isBad (s[pos]'hp) with
    | false => rfl
    | true => rw [isBad_iff] at hb; simp at h1 h2; omega
  · refine anyBad_more s pos _ h0 fun j hj => ?_
    obtain ⟨q, hq⟩ := decode_cont s pos hp (by omega) j hj
    exact ⟨q, isBad_high _ hq⟩

/-- One of the two is a bad byte there. -/
theorem hit_rune (s : ByteArray) (pos : Nat) (hp : pos < s.size) (h : ((Utf8.decode s pos).1 : Int) = 47 ∨ ((Utf8.decode s pos).1 : Int) = 0) : anyBad s.data.toList = true := by
  by_cases ha : (s[pos]'hp).toNat < 128
  · rw [decode_ascii s pos hp ha] at h
    refine anyBad_of_get s pos hp ?_
    rw [isBad_iff]; simp at h; omega
  · have := (decode_high s pos hp (by omega)).1; omega

theorem width_pos (s : ByteArray) (pos : Nat) (h : pos < s.size) : 1 ≤ (Utf8.decode s pos).2 := by
  by_cases ha : (s[pos]'h).toNat < 128
  · rw [decode_ascii s pos h ha]
    exact Nat.le_refl _
  · exact (decode_high s pos h (by omega)).2
end Go.Proofs.YtplieplmhdfndaaGreatDoor.Chk
