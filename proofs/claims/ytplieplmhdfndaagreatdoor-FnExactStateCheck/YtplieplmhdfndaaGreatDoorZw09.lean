/- The program's look at a root, whole: rootFault. The program's look at an inode: inodeFault. -/
import Derived.Test.YtplieplmhdfndaaGreatDoorZw08
namespace Go.Proofs.YtplieplmhdfndaaGreatDoor
set_option linter.unusedVariables false
set_option linter.unusedSimpArgs false
open Go.RowKit

theorem Kp.below {w wr w' : World} {C : Array Value} {t : TypeId} {code : Int} {ok : Bool} (h : Kp w wr C t code ok) (hb : Below wr.heap.size wr w') : Kp w w' C t code ok :=
  ⟨h.blk.below hb h.blk.lt, h.ck.below hb, h.old.trans (hb.mono h.old.size)⟩

theorem inside_fault (w wr w1 : World) (C : Array Value) (t : TypeId) (code : Int) (ok ok1 : Bool) (place : ByteArray) (ev : Value) (h : Kp w w1 C t code ok) (hlo : w.heap.size + 1 + 1 ≤ wr.heap.size) (hs : wr.heap.size ≤ w1.heap.size) (hf : FaultIs w1 wr.heap.size ok1 ev code) :
    Calls Tryz.prog 61 #[.pointer (some ⟨w.heap.size + 1, 0, none⟩), .string place, ev] w1 fun e w' => e = .returned (.tuple #[]) ∧ Kp w w' C t code (ok && ok1) := by
  rcases hf with ⟨rfl, rfl⟩ | ⟨rfl, m, hm⟩
  · refine (inside_nil (w.heap.size + 1) _ place code ok w1 h.ck).mono ?_
    rintro e w' ⟨rfl, rfl⟩
    exact ⟨rfl, by simpa using h⟩
  · refine (inside_any (w.heap.size + 1) (w.heap.size + 1 + 1) place code ok m ev w1 h.ck (hm.mono hlo) (by omega) h.lo).mono ?_
    rintro e w' ⟨rfl, hc, ht⟩
    exact ⟨rfl, by rw [Bool.and_false]; exact h.tch hc ht⟩

def dirsB (ds : List Int) (y : Int) (n : Nat) : Bool := (List.range n).all fun i => decide (ds.getD i 0 = 0) || decide ((i : Int) < y)
theorem dirsB_succ (ds : List Int) (y : Int) (n : Nat) : dirsB ds y (n + 1) = (dirsB ds y n && (decide (ds.getD n 0 = 0) || decide ((n : Int) < y))) := by simp [dirsB, List.range_succ]

set_option maxRecDepth 100000 in
set_option maxHeartbeats 2000000 in
theorem rootFault_any (s : Int) (ds : List Int) (p q code : Int) (w : World) (hd : ds.length = 12) :
    Calls Tryz.prog 177 #[.agg (cellsI (rootI s ds p q)), .int .i64 code] w fun e w' => ∃ ev, e = .returned ev ∧ FaultIs w' w.heap.size (rightR s ds p q) ev code ∧ Below w.heap.size w w' := by
  have HD := hide hd
  have HZ := hide (show (cellsI (rootI s ds p q)).size = 15 from by rw [cellsI_size]; exact rootI_len s ds p q HD.out)
  have kB := (Blk.new w (cellsI (rootI s ds p q)) 226).alloc (.cells #[.int .i64 code, .nilIface] 127)
  have kC := Ck.fresh (w.alloc (.cells (cellsI (rootI s ds p q)) 226)) code 127
  rw [World.size_alloc] at kC
  have hb0 : Below w.heap.size w ((w.alloc (.cells (cellsI (rootI s ds p q)) 226)).alloc (.cells #[.int .i64 code, .nilIface] 127)) := ((Below.refl _ _).alloc (Nat.le_refl _) _).alloc (by simp) _
  have HX := hide (fun k hk w => index12 ds k HD.out hk w)
  have K := hide (show Kp w ((w.alloc (.cells (cellsI (rootI s ds p q)) 226)).alloc (.cells #[.int .i64 code, .nilIface] 127)) (cellsI (rootI s ds p q)) 226 code true from ⟨kB, kC, hb0⟩)
  have c0 : ∀ o1, ((w.alloc (.cells (cellsI (rootI s ds p q)) 226)).alloc o1).cell? ⟨w.heap.size, 0, none⟩ = some (.int .i64 s) := fun o1 => by
    rw [((Blk.new w _ _).alloc o1).cell 0]; rfl
  have HS := hide (show (cellsI (rootI s ds p q))[0]? = some (.int .i64 s) from rfl)
  clear hd kB kC hb0
  go_enter Tryz.func177, Tryz.ntmps177
  go_wp2_with (go_at_call 95; fail)
  refine (within_any (w.heap.size + 1) (w.heap.size + 1 + 1) _ code s 0 262144 true _ K.out.ck (by omega) K.out.lo).mono ?_
  rintro e w1 ⟨rfl, hc1, ht1⟩
  rw [Bool.true_and] at hc1
  have H1 := hide (K.out.tch hc1 ht1)
  clear hc1 ht1 K c0
  go_wp2_with (first | (refine wpList_load_row rfl 226 _ rfl w.heap.size rfl 226 (cellsI (rootI s ds p q)) (0, 0) _ H1.out.blk Tryz.underlying226 rfl (by rw [HZ.out]; exact info15) ?_) | (go_at_call 194; fail))
  refine (pointersFault_any s ds p q 2048 code _ HD.out).mono ?_
  rintro e w2 ⟨ev2, rfl, hf2, hb2⟩
  have H2 := hide (And.intro (H1.out.below hb2) (And.intro hf2 (And.intro H1.out.lo hb2.size)))
  clear hf2 hb2
  go_wp2_with fail
  refine (inside_fault w w1 w2 _ _ code _ _ _ ev2 H2.out.1 H2.out.2.2.1 H2.out.2.2.2 H2.out.2.1).mono ?_
  rintro e w3 ⟨rfl, hk3⟩
  have H3 := hide hk3
  have c3 := (H3.out.blk.cell 0).trans HS.out
  have HR := hide (show w3.rangeAt w.heap.size 1 (ds.map (Value.int .i64)) from by
    have hr := H3.out.blk.range 1 12 (by rw [rootI_len _ _ _ _ HD.out]; omega)
    rw [root_range _ _ _ _ HD.out] at hr
    exact hr)
  clear hk3 H1 H2
  go_wp2_with (go_at_call 195; fail)
  refine (blocksOf_out s _).mono ?_
  rintro e w3' ⟨⟨y, rfl, hy⟩, rfl⟩
  have HY := hide (right_eq s ds p q y HD.out hy)
  clear hy c3
  go_wp2_with (refine wpList_load_mid rfl 224 _ rfl w.heap.size 1 rfl (ds.map (Value.int .i64)) _ HR.out Tryz.underlying224 rfl (by rw [List.length_map, HD.out]; exact info12) ?_)
  go_loopw [23] (fun i wr => ∃ k : Nat, k ≤ 12 ∧ i = .int .i64 k ∧ Kp w wr (cellsI (rootI s ds p q)) 226 code (((decide (0 ≤ s) && decide (s ≤ 262144)) && ptrsB ds p q 2048) && dirsB ds y k)) (fun i _ => 12 - (intOf i).toNat)
  case atStart => exact ⟨0, by omega, rfl, by have h := H3.out; simpa [dirsB] using h⟩
  case round =>
    obtain ⟨k, hk, rfl, hkp⟩ := hrel
    have HK := hide hkp
    clear hkp H3 HR
    by_cases hlt : k < 12
    · have hix : ∀ w, (Instr.index 224 (.agg (ds.map (Value.int .i64)).toArray) (.int .i64 k)).run Tryz.prog w = .ok (.int .i64 (ds.getD k 0)) w := fun w => HX.out k hlt w
      have HT := hide (dirsB_succ ds y k)
      generalize ds.getD k 0 = z at hix HT
      by_cases hz : z = 0
      · have hz0 : (z == 0) = true := by simp [hz]
        have HZ0 := hide (show (decide (z = 0) || decide ((k : Int) < y)) = true from by simp [hz])
        clear hz
        go_wp2_with (go_at_call 86; refine (need_any (w.heap.size + 1) (w.heap.size + 1 + 1) _ code _ true _ HK.out.ck (by omega) HK.out.lo).mono ?_; rintro e w4 ⟨rfl, hc4, ht4⟩)
        have H4 := hide (HK.out.tch hc4 ht4)
        clear hc4 ht4
        go_roundw
        case rel => exact ⟨k + 1, by omega, by go_num, by rw [HT.out, HZ0.out, ← Bool.and_assoc]; exact H4.out⟩
        case measure => simp [intOf]; omega
      · have hz0 : (z == 0) = false := by simp [hz]
        have HZ0 := hide (show (decide (z = 0) || decide ((k : Int) < y)) = decide ((k : Int) < y) from by simp [hz])
        clear hz
        go_wp2_with (go_at_call 86; refine (need_any (w.heap.size + 1) (w.heap.size + 1 + 1) _ code _ (decide ((k : Int) < y)) _ HK.out.ck (by omega) HK.out.lo).mono ?_; rintro e w4 ⟨rfl, hc4, ht4⟩)
        have H4 := hide (HK.out.tch hc4 ht4)
        clear hc4 ht4
        go_roundw
        case rel => exact ⟨k + 1, by omega, by go_num, by rw [HT.out, HZ0.out, ← Bool.and_assoc]; exact H4.out⟩
        case measure => simp [intOf]; omega
    · have e12 : k = 12 := by omega
      subst e12
      have a13 := (HK.out.blk.cell 13).trans (rootI_get13 s ds p q HD.out)
      by_cases hp0 : p = 0
      · by_cases hq0 : q = 0
        · have hp1 : (p == 0) = true := by simp [hp0]
          have hq1 : (q == 0) = true := by simp [hq0]
          have HP := hide (show (decide (p = 0) || decide (12 < y)) = true from by simp [hp0])
          have HQ := hide (show (decide (q = 0) || decide (140 < y)) = true from by simp [hq0])
          clear hp0 hq0
          go_wp2_with (go_at_call 86; fail)
          refine (need_any (w.heap.size + 1) (w.heap.size + 1 + 1) _ code _ true _ HK.out.ck (by omega) HK.out.lo).mono ?_
          rintro e w5 ⟨rfl, hc5, ht5⟩
          have H5 := hide (HK.out.tch hc5 ht5)
          have a14 := (H5.out.blk.cell 14).trans (rootI_get14 s ds p q HD.out)
          clear hc5 ht5 a13
          go_wp2_with (go_at_call 86; fail)
          refine (need_any (w.heap.size + 1) (w.heap.size + 1 + 1) _ code _ true _ H5.out.ck (by omega) H5.out.lo).mono ?_
          rintro e w6 ⟨rfl, hc6, ht6⟩
          have H6 := hide (H5.out.tch hc6 ht6)
          obtain ⟨ev, c6, hf6⟩ := H6.out.fault
          have HF := hide (show FaultIs w6 w.heap.size (rightR s ds p q) ev code from by rw [← HY.out]; unfold rightI; rw [HP.out, HQ.out]; exact hf6)
          clear hc6 ht6 a14 hf6
          go_wp2
          go_ret
          exact ⟨ev, rfl, HF.out, H6.out.old⟩
        · have hp1 : (p == 0) = true := by simp [hp0]
          have hq1 : (q == 0) = false := by simp [hq0]
          have HP := hide (show (decide (p = 0) || decide (12 < y)) = true from by simp [hp0])
          have HQ := hide (show (decide (q = 0) || decide (140 < y)) = (decide (140 < y)) from by simp [hq0])
          clear hp0 hq0
          go_wp2_with (go_at_call 86; fail)
          refine (need_any (w.heap.size + 1) (w.heap.size + 1 + 1) _ code _ true _ HK.out.ck (by omega) HK.out.lo).mono ?_
          rintro e w5 ⟨rfl, hc5, ht5⟩
          have H5 := hide (HK.out.tch hc5 ht5)
          have a14 := (H5.out.blk.cell 14).trans (rootI_get14 s ds p q HD.out)
          clear hc5 ht5 a13
          go_wp2_with (go_at_call 86; fail)
          refine (need_any (w.heap.size + 1) (w.heap.size + 1 + 1) _ code _ (decide (140 < y)) _ H5.out.ck (by omega) H5.out.lo).mono ?_
          rintro e w6 ⟨rfl, hc6, ht6⟩
          have H6 := hide (H5.out.tch hc6 ht6)
          obtain ⟨ev, c6, hf6⟩ := H6.out.fault
          have HF := hide (show FaultIs w6 w.heap.size (rightR s ds p q) ev code from by rw [← HY.out]; unfold rightI; rw [HP.out, HQ.out]; exact hf6)
          clear hc6 ht6 a14 hf6
          go_wp2
          go_ret
          exact ⟨ev, rfl, HF.out, H6.out.old⟩
      · by_cases hq0 : q = 0
        · have hp1 : (p == 0) = false := by simp [hp0]
          have hq1 : (q == 0) = true := by simp [hq0]
          have HP := hide (show (decide (p = 0) || decide (12 < y)) = (decide (12 < y)) from by simp [hp0])
          have HQ := hide (show (decide (q = 0) || decide (140 < y)) = true from by simp [hq0])
          clear hp0 hq0
          go_wp2_with (go_at_call 86; fail)
          refine (need_any (w.heap.size + 1) (w.heap.size + 1 + 1) _ code _ (decide (12 < y)) _ HK.out.ck (by omega) HK.out.lo).mono ?_
          rintro e w5 ⟨rfl, hc5, ht5⟩
          have H5 := hide (HK.out.tch hc5 ht5)
          have a14 := (H5.out.blk.cell 14).trans (rootI_get14 s ds p q HD.out)
          clear hc5 ht5 a13
          go_wp2_with (go_at_call 86; fail)
          refine (need_any (w.heap.size + 1) (w.heap.size + 1 + 1) _ code _ true _ H5.out.ck (by omega) H5.out.lo).mono ?_
          rintro e w6 ⟨rfl, hc6, ht6⟩
          have H6 := hide (H5.out.tch hc6 ht6)
          obtain ⟨ev, c6, hf6⟩ := H6.out.fault
          have HF := hide (show FaultIs w6 w.heap.size (rightR s ds p q) ev code from by rw [← HY.out]; unfold rightI; rw [HP.out, HQ.out]; exact hf6)
          clear hc6 ht6 a14 hf6
          go_wp2
          go_ret
          exact ⟨ev, rfl, HF.out, H6.out.old⟩
        · have hp1 : (p == 0) = false := by simp [hp0]
          have hq1 : (q == 0) = false := by simp [hq0]
          have HP := hide (show (decide (p = 0) || decide (12 < y)) = (decide (12 < y)) from by simp [hp0])
          have HQ := hide (show (decide (q = 0) || decide (140 < y)) = (decide (140 < y)) from by simp [hq0])
          clear hp0 hq0
          go_wp2_with (go_at_call 86; fail)
          refine (need_any (w.heap.size + 1) (w.heap.size + 1 + 1) _ code _ (decide (12 < y)) _ HK.out.ck (by omega) HK.out.lo).mono ?_
          rintro e w5 ⟨rfl, hc5, ht5⟩
          have H5 := hide (HK.out.tch hc5 ht5)
          have a14 := (H5.out.blk.cell 14).trans (rootI_get14 s ds p q HD.out)
          clear hc5 ht5 a13
          go_wp2_with (go_at_call 86; fail)
          refine (need_any (w.heap.size + 1) (w.heap.size + 1 + 1) _ code _ (decide (140 < y)) _ H5.out.ck (by omega) H5.out.lo).mono ?_
          rintro e w6 ⟨rfl, hc6, ht6⟩
          have H6 := hide (H5.out.tch hc6 ht6)
          obtain ⟨ev, c6, hf6⟩ := H6.out.fault
          have HF := hide (show FaultIs w6 w.heap.size (rightR s ds p q) ev code from by rw [← HY.out]; unfold rightI; rw [HP.out, HQ.out]; exact hf6)
          clear hc6 ht6 a14 hf6
          go_wp2
          go_ret
          exact ⟨ev, rfl, HF.out, H6.out.old⟩
end Go.Proofs.YtplieplmhdfndaaGreatDoor

namespace Go.Proofs.YtplieplmhdfndaaGreatDoor
set_option linter.unusedVariables false
set_option linter.unusedSimpArgs false
open Go.RowKit


set_option maxRecDepth 100000 in
set_option maxHeartbeats 2000000 in
theorem inodeFault_zero (k0 k1 k2 k3 k4 k5 k6 k7 k8 s : Int) (ds : List Int) (p q code : Int) (w : World) (hd : ds.length = 12) (hz : zeroB (inoI [k0, k1, k2, k3, k4, k5, k6, k7, k8] s ds p q) = true) :
    Calls Tryz.prog 143 #[.agg (cellsI (inoI [k0, k1, k2, k3, k4, k5, k6, k7, k8] s ds p q)), .int .i64 code] w fun e w' => e = .returned .nilIface ∧ Below w.heap.size w w' := by
  have HZB := hide hz
  have HZ := hide (show (cellsI (inoI [k0, k1, k2, k3, k4, k5, k6, k7, k8] s ds p q)).size = 24 from by rw [cellsI_size]; exact inoI_len _ _ _ _ _ rfl hd)
  have K0 := hide (And.intro (Blk.new w (cellsI (inoI [k0, k1, k2, k3, k4, k5, k6, k7, k8] s ds p q)) 228) (show Below w.heap.size w (w.alloc (.cells (cellsI (inoI [k0, k1, k2, k3, k4, k5, k6, k7, k8] s ds p q)) 228)) from (Below.refl _ _).alloc (Nat.le_refl _) _))
  have HE := hide (fun w => eqIno_zero w 9995 k0 k1 k2 k3 k4 k5 k6 k7 k8 s ds p q hd)
  clear hd hz
  go_enter Tryz.func143, Tryz.ntmps143
  go_wp2_with (first | (refine wpList_load_row rfl 228 _ rfl w.heap.size rfl 228 (cellsI (inoI [k0, k1, k2, k3, k4, k5, k6, k7, k8] s ds p q)) (0, 0) _ K0.out.1 Tryz.underlying228 rfl (by rw [HZ.out]; exact info24) ?_) | (refine wpList_eql rfl 228 _ _ _ rfl (cellsI (inoI [k0, k1, k2, k3, k4, k5, k6, k7, k8] s ds p q)) #[.int .i64 0, .int .i64 0, .int .i64 0, .int .i64 0, .int .i64 0, .int .i64 0, .int .i64 0, .int .i64 0, .int .i64 0, .int .i64 0, .int .i64 0, .int .i64 0, .int .i64 0, .int .i64 0, .int .i64 0, .int .i64 0, .int .i64 0, .int .i64 0, .int .i64 0, .int .i64 0, .int .i64 0, .int .i64 0, .int .i64 0, .int .i64 0] rfl rfl guardIno true (by rw [← HZB.out]; exact HE.out _) ?_))
  go_ret
  exact ⟨rfl, K0.out.2⟩

set_option maxRecDepth 100000 in
set_option maxHeartbeats 2000000 in
theorem inodeFault_some (k0 k1 k2 k3 k4 k5 k6 k7 k8 s : Int) (ds : List Int) (p q code : Int) (w : World) (hd : ds.length = 12) (hz : zeroB (inoI [k0, k1, k2, k3, k4, k5, k6, k7, k8] s ds p q) = false) :
    Calls Tryz.prog 143 #[.agg (cellsI (inoI [k0, k1, k2, k3, k4, k5, k6, k7, k8] s ds p q)), .int .i64 code] w fun e w' => ∃ ev, e = .returned ev ∧ FaultIs w' w.heap.size (fieldsB k0 k1 k2 k3 k4 k5 k6 k7 k8 && rightR s ds p q) ev code ∧ Below w.heap.size w w' := by
  have HD := hide hd
  have HZB := hide hz
  have HZ := hide (show (cellsI (inoI [k0, k1, k2, k3, k4, k5, k6, k7, k8] s ds p q)).size = 24 from by rw [cellsI_size]; exact inoI_len _ _ _ _ _ rfl hd)
  have HLen := hide (show (cellsI (rootI s ds p q)).size = 15 from by rw [cellsI_size]; exact rootI_len s ds p q HD.out)
  have K0 := hide (Blk.new w (cellsI (inoI [k0, k1, k2, k3, k4, k5, k6, k7, k8] s ds p q)) 228)
  have HE := hide (fun w => eqIno_zero w 9995 k0 k1 k2 k3 k4 k5 k6 k7 k8 s ds p q hd)
  have kB := (Blk.new w (cellsI (inoI [k0, k1, k2, k3, k4, k5, k6, k7, k8] s ds p q)) 228).alloc (.cells #[.int .i64 code, .nilIface] 127)
  have kC := Ck.fresh (w.alloc (.cells (cellsI (inoI [k0, k1, k2, k3, k4, k5, k6, k7, k8] s ds p q)) 228)) code 127
  rw [World.size_alloc] at kC
  have hb0 : Below w.heap.size w ((w.alloc (.cells (cellsI (inoI [k0, k1, k2, k3, k4, k5, k6, k7, k8] s ds p q)) 228)).alloc (.cells #[.int .i64 code, .nilIface] 127)) := ((Below.refl _ _).alloc (Nat.le_refl _) _).alloc (by simp) _
  have H0 := hide (show Kp w ((w.alloc (.cells (cellsI (inoI [k0, k1, k2, k3, k4, k5, k6, k7, k8] s ds p q)) 228)).alloc (.cells #[.int .i64 code, .nilIface] 127)) (cellsI (inoI [k0, k1, k2, k3, k4, k5, k6, k7, k8] s ds p q)) 228 code true from ⟨kB, kC, hb0⟩)
  have c0 : ((w.alloc (.cells (cellsI (inoI [k0, k1, k2, k3, k4, k5, k6, k7, k8] s ds p q)) 228)).alloc (.cells #[.int .i64 code, .nilIface] 127)).cell? ⟨w.heap.size, 0, none⟩ = some (.int .i64 k0) := (kB.cell 0).trans rfl
  have HF := hide (show fieldsB k0 k1 k2 k3 k4 k5 k6 k7 k8 = (wi k0 1 3 && wi k1 1 1000 && wi k2 0 4095 && wi k3 0 65535 && wi k4 0 65535 && parB k0 k5 && wi k6 1 1099511627776 && wi k7 1 1099511627776 && wi k8 1 1099511627776) from rfl)
  clear hd hz kB kC hb0
  by_cases hk : k0 = 2
  · have hk2 : (k0 == 2) = true := by simp [hk]
    have HP := hide (show parB k0 k5 = wi k5 1 1000 from by unfold parB; rw [if_pos hk])
    clear hk
    go_enter Tryz.func143, Tryz.ntmps143
    go_wp2_with (first | (refine wpList_load_row rfl 228 _ rfl w.heap.size rfl 228 (cellsI (inoI [k0, k1, k2, k3, k4, k5, k6, k7, k8] s ds p q)) (0, 0) _ K0.out Tryz.underlying228 rfl (by rw [HZ.out]; exact info24) ?_) | (refine wpList_eql rfl 228 _ _ _ rfl (cellsI (inoI [k0, k1, k2, k3, k4, k5, k6, k7, k8] s ds p q)) #[.int .i64 0, .int .i64 0, .int .i64 0, .int .i64 0, .int .i64 0, .int .i64 0, .int .i64 0, .int .i64 0, .int .i64 0, .int .i64 0, .int .i64 0, .int .i64 0, .int .i64 0, .int .i64 0, .int .i64 0, .int .i64 0, .int .i64 0, .int .i64 0, .int .i64 0, .int .i64 0, .int .i64 0, .int .i64 0, .int .i64 0, .int .i64 0] rfl rfl guardIno false (by rw [← HZB.out]; exact HE.out _) ?_) | (go_at_call 95; fail))
    refine (within_any (w.heap.size + 1) (w.heap.size + 1 + 1) _ code k0 1 3 _ _ H0.out.ck (by omega) H0.out.lo).mono ?_
    rintro e w1 ⟨rfl, hc1, ht1⟩
    rw [Bool.true_and] at hc1
    have H1 := hide (H0.out.tch hc1 ht1)
    clear hc1 ht1 H0 c0 K0 
    have c1 := (H1.out.blk.cell 1).trans (show (cellsI (inoI [k0, k1, k2, k3, k4, k5, k6, k7, k8] s ds p q))[1]? = some (.int .i64 k1) from rfl)
    go_wp2_with (go_at_call 95; fail)
    refine (within_any (w.heap.size + 1) (w.heap.size + 1 + 1) _ code k1 1 1000 _ _ H1.out.ck (by omega) H1.out.lo).mono ?_
    rintro e w2 ⟨rfl, hc2, ht2⟩
    have H2 := hide (H1.out.tch hc2 ht2)
    clear hc2 ht2 H1 c1 
    have c2 := (H2.out.blk.cell 2).trans (show (cellsI (inoI [k0, k1, k2, k3, k4, k5, k6, k7, k8] s ds p q))[2]? = some (.int .i64 k2) from rfl)
    go_wp2_with (go_at_call 95; fail)
    refine (within_any (w.heap.size + 1) (w.heap.size + 1 + 1) _ code k2 0 4095 _ _ H2.out.ck (by omega) H2.out.lo).mono ?_
    rintro e w3 ⟨rfl, hc3, ht3⟩
    have H3 := hide (H2.out.tch hc3 ht3)
    clear hc3 ht3 H2 c2 
    have c3 := (H3.out.blk.cell 3).trans (show (cellsI (inoI [k0, k1, k2, k3, k4, k5, k6, k7, k8] s ds p q))[3]? = some (.int .i64 k3) from rfl)
    go_wp2_with (go_at_call 95; fail)
    refine (within_any (w.heap.size + 1) (w.heap.size + 1 + 1) _ code k3 0 65535 _ _ H3.out.ck (by omega) H3.out.lo).mono ?_
    rintro e w4 ⟨rfl, hc4, ht4⟩
    have H4 := hide (H3.out.tch hc4 ht4)
    clear hc4 ht4 H3 c3 
    have c4 := (H4.out.blk.cell 4).trans (show (cellsI (inoI [k0, k1, k2, k3, k4, k5, k6, k7, k8] s ds p q))[4]? = some (.int .i64 k4) from rfl)
    go_wp2_with (go_at_call 95; fail)
    refine (within_any (w.heap.size + 1) (w.heap.size + 1 + 1) _ code k4 0 65535 _ _ H4.out.ck (by omega) H4.out.lo).mono ?_
    rintro e w5 ⟨rfl, hc5, ht5⟩
    have H5 := hide (H4.out.tch hc5 ht5)
    clear hc5 ht5 H4 c4 
    have c0 := (H5.out.blk.cell 0).trans (show (cellsI (inoI [k0, k1, k2, k3, k4, k5, k6, k7, k8] s ds p q))[0]? = some (.int .i64 k0) from rfl)
    have c5 := (H5.out.blk.cell 5).trans (show (cellsI (inoI [k0, k1, k2, k3, k4, k5, k6, k7, k8] s ds p q))[5]? = some (.int .i64 k5) from rfl)
    go_wp2_with (go_at_call 95; fail)
    refine (within_any (w.heap.size + 1) (w.heap.size + 1 + 1) _ code k5 1 1000 _ _ H5.out.ck (by omega) H5.out.lo).mono ?_
    rintro e w6 ⟨rfl, hc6, ht6⟩
    have H6 := hide (H5.out.tch hc6 ht6)
    clear hc6 ht6 H5 c5  c0
    have c6 := (H6.out.blk.cell 6).trans (show (cellsI (inoI [k0, k1, k2, k3, k4, k5, k6, k7, k8] s ds p q))[6]? = some (.int .i64 k6) from rfl)
    go_wp2_with (go_at_call 95; fail)
    refine (within_any (w.heap.size + 1) (w.heap.size + 1 + 1) _ code k6 1 1099511627776 _ _ H6.out.ck (by omega) H6.out.lo).mono ?_
    rintro e w7 ⟨rfl, hc7, ht7⟩
    have H7 := hide (H6.out.tch hc7 ht7)
    clear hc7 ht7 H6 c6 
    have c7 := (H7.out.blk.cell 7).trans (show (cellsI (inoI [k0, k1, k2, k3, k4, k5, k6, k7, k8] s ds p q))[7]? = some (.int .i64 k7) from rfl)
    go_wp2_with (go_at_call 95; fail)
    refine (within_any (w.heap.size + 1) (w.heap.size + 1 + 1) _ code k7 1 1099511627776 _ _ H7.out.ck (by omega) H7.out.lo).mono ?_
    rintro e w8 ⟨rfl, hc8, ht8⟩
    have H8 := hide (H7.out.tch hc8 ht8)
    clear hc8 ht8 H7 c7 
    have c8 := (H8.out.blk.cell 8).trans (show (cellsI (inoI [k0, k1, k2, k3, k4, k5, k6, k7, k8] s ds p q))[8]? = some (.int .i64 k8) from rfl)
    go_wp2_with (go_at_call 95; fail)
    refine (within_any (w.heap.size + 1) (w.heap.size + 1 + 1) _ code k8 1 1099511627776 _ _ H8.out.ck (by omega) H8.out.lo).mono ?_
    rintro e w9 ⟨rfl, hc9, ht9⟩
    have H9 := hide (H8.out.tch hc9 ht9)
    clear hc9 ht9 H8 c8 
    have HR := hide (ino_range k0 k1 k2 k3 k4 k5 k6 k7 k8 s ds p q HD.out H9.out.blk)
    go_wp2_with (first | (refine wpList_load_mid rfl 226 _ rfl w.heap.size 9 rfl ((rootI s ds p q).map (Value.int .i64)) _ HR.out Tryz.underlying226 rfl (by rw [List.length_map, ← cellsI_size, HLen.out]; exact info15) ?_) | (go_at_call 177; fail))
    refine (rootFault_any s ds p q code _ HD.out).mono ?_
    rintro e w10 ⟨ev10, rfl, hf10, hb10⟩
    have H10 := hide (And.intro (H9.out.below hb10) (And.intro hf10 (And.intro H9.out.lo hb10.size)))
    clear hf10 hb10 HR
    go_wp2_with fail
    refine (inside_fault w w9 w10 _ _ code _ _ _ ev10 H10.out.1 H10.out.2.2.1 H10.out.2.2.2 H10.out.2.1).mono ?_
    rintro e w11 ⟨rfl, hk11⟩
    have H11 := hide hk11
    obtain ⟨ev, c11, hf11⟩ := H11.out.fault
    have HV := hide (show FaultIs w11 w.heap.size (fieldsB k0 k1 k2 k3 k4 k5 k6 k7 k8 && rightR s ds p q) ev code from by rw [HF.out, HP.out]; exact hf11)
    clear hk11 hf11 H10 H9
    go_wp2
    go_ret
    exact ⟨ev, rfl, HV.out, H11.out.old⟩
  · have hk2 : (k0 == 2) = false := by simp [hk]
    have HP := hide (show parB k0 k5 = (k5 == 0) from by unfold parB; rw [if_neg hk])
    clear hk
    go_enter Tryz.func143, Tryz.ntmps143
    go_wp2_with (first | (refine wpList_load_row rfl 228 _ rfl w.heap.size rfl 228 (cellsI (inoI [k0, k1, k2, k3, k4, k5, k6, k7, k8] s ds p q)) (0, 0) _ K0.out Tryz.underlying228 rfl (by rw [HZ.out]; exact info24) ?_) | (refine wpList_eql rfl 228 _ _ _ rfl (cellsI (inoI [k0, k1, k2, k3, k4, k5, k6, k7, k8] s ds p q)) #[.int .i64 0, .int .i64 0, .int .i64 0, .int .i64 0, .int .i64 0, .int .i64 0, .int .i64 0, .int .i64 0, .int .i64 0, .int .i64 0, .int .i64 0, .int .i64 0, .int .i64 0, .int .i64 0, .int .i64 0, .int .i64 0, .int .i64 0, .int .i64 0, .int .i64 0, .int .i64 0, .int .i64 0, .int .i64 0, .int .i64 0, .int .i64 0] rfl rfl guardIno false (by rw [← HZB.out]; exact HE.out _) ?_) | (go_at_call 95; fail))
    refine (within_any (w.heap.size + 1) (w.heap.size + 1 + 1) _ code k0 1 3 _ _ H0.out.ck (by omega) H0.out.lo).mono ?_
    rintro e w1 ⟨rfl, hc1, ht1⟩
    rw [Bool.true_and] at hc1
    have H1 := hide (H0.out.tch hc1 ht1)
    clear hc1 ht1 H0 c0 K0 
    have c1 := (H1.out.blk.cell 1).trans (show (cellsI (inoI [k0, k1, k2, k3, k4, k5, k6, k7, k8] s ds p q))[1]? = some (.int .i64 k1) from rfl)
    go_wp2_with (go_at_call 95; fail)
    refine (within_any (w.heap.size + 1) (w.heap.size + 1 + 1) _ code k1 1 1000 _ _ H1.out.ck (by omega) H1.out.lo).mono ?_
    rintro e w2 ⟨rfl, hc2, ht2⟩
    have H2 := hide (H1.out.tch hc2 ht2)
    clear hc2 ht2 H1 c1 
    have c2 := (H2.out.blk.cell 2).trans (show (cellsI (inoI [k0, k1, k2, k3, k4, k5, k6, k7, k8] s ds p q))[2]? = some (.int .i64 k2) from rfl)
    go_wp2_with (go_at_call 95; fail)
    refine (within_any (w.heap.size + 1) (w.heap.size + 1 + 1) _ code k2 0 4095 _ _ H2.out.ck (by omega) H2.out.lo).mono ?_
    rintro e w3 ⟨rfl, hc3, ht3⟩
    have H3 := hide (H2.out.tch hc3 ht3)
    clear hc3 ht3 H2 c2 
    have c3 := (H3.out.blk.cell 3).trans (show (cellsI (inoI [k0, k1, k2, k3, k4, k5, k6, k7, k8] s ds p q))[3]? = some (.int .i64 k3) from rfl)
    go_wp2_with (go_at_call 95; fail)
    refine (within_any (w.heap.size + 1) (w.heap.size + 1 + 1) _ code k3 0 65535 _ _ H3.out.ck (by omega) H3.out.lo).mono ?_
    rintro e w4 ⟨rfl, hc4, ht4⟩
    have H4 := hide (H3.out.tch hc4 ht4)
    clear hc4 ht4 H3 c3 
    have c4 := (H4.out.blk.cell 4).trans (show (cellsI (inoI [k0, k1, k2, k3, k4, k5, k6, k7, k8] s ds p q))[4]? = some (.int .i64 k4) from rfl)
    go_wp2_with (go_at_call 95; fail)
    refine (within_any (w.heap.size + 1) (w.heap.size + 1 + 1) _ code k4 0 65535 _ _ H4.out.ck (by omega) H4.out.lo).mono ?_
    rintro e w5 ⟨rfl, hc5, ht5⟩
    have H5 := hide (H4.out.tch hc5 ht5)
    clear hc5 ht5 H4 c4 
    have c0 := (H5.out.blk.cell 0).trans (show (cellsI (inoI [k0, k1, k2, k3, k4, k5, k6, k7, k8] s ds p q))[0]? = some (.int .i64 k0) from rfl)
    have c5 := (H5.out.blk.cell 5).trans (show (cellsI (inoI [k0, k1, k2, k3, k4, k5, k6, k7, k8] s ds p q))[5]? = some (.int .i64 k5) from rfl)
    go_wp2_with (go_at_call 86; fail)
    refine (need_any (w.heap.size + 1) (w.heap.size + 1 + 1) _ code _ (k5 == 0) _ H5.out.ck (by omega) H5.out.lo).mono ?_
    rintro e w6 ⟨rfl, hc6, ht6⟩
    have H6 := hide (H5.out.tch hc6 ht6)
    clear hc6 ht6 H5 c5  c0
    have c6 := (H6.out.blk.cell 6).trans (show (cellsI (inoI [k0, k1, k2, k3, k4, k5, k6, k7, k8] s ds p q))[6]? = some (.int .i64 k6) from rfl)
    go_wp2_with (go_at_call 95; fail)
    refine (within_any (w.heap.size + 1) (w.heap.size + 1 + 1) _ code k6 1 1099511627776 _ _ H6.out.ck (by omega) H6.out.lo).mono ?_
    rintro e w7 ⟨rfl, hc7, ht7⟩
    have H7 := hide (H6.out.tch hc7 ht7)
    clear hc7 ht7 H6 c6 
    have c7 := (H7.out.blk.cell 7).trans (show (cellsI (inoI [k0, k1, k2, k3, k4, k5, k6, k7, k8] s ds p q))[7]? = some (.int .i64 k7) from rfl)
    go_wp2_with (go_at_call 95; fail)
    refine (within_any (w.heap.size + 1) (w.heap.size + 1 + 1) _ code k7 1 1099511627776 _ _ H7.out.ck (by omega) H7.out.lo).mono ?_
    rintro e w8 ⟨rfl, hc8, ht8⟩
    have H8 := hide (H7.out.tch hc8 ht8)
    clear hc8 ht8 H7 c7 
    have c8 := (H8.out.blk.cell 8).trans (show (cellsI (inoI [k0, k1, k2, k3, k4, k5, k6, k7, k8] s ds p q))[8]? = some (.int .i64 k8) from rfl)
    go_wp2_with (go_at_call 95; fail)
    refine (within_any (w.heap.size + 1) (w.heap.size + 1 + 1) _ code k8 1 1099511627776 _ _ H8.out.ck (by omega) H8.out.lo).mono ?_
    rintro e w9 ⟨rfl, hc9, ht9⟩
    have H9 := hide (H8.out.tch hc9 ht9)
    clear hc9 ht9 H8 c8 
    have HR := hide (ino_range k0 k1 k2 k3 k4 k5 k6 k7 k8 s ds p q HD.out H9.out.blk)
    go_wp2_with (first | (refine wpList_load_mid rfl 226 _ rfl w.heap.size 9 rfl ((rootI s ds p q).map (Value.int .i64)) _ HR.out Tryz.underlying226 rfl (by rw [List.length_map, ← cellsI_size, HLen.out]; exact info15) ?_) | (go_at_call 177; fail))
    refine (rootFault_any s ds p q code _ HD.out).mono ?_
    rintro e w10 ⟨ev10, rfl, hf10, hb10⟩
    have H10 := hide (And.intro (H9.out.below hb10) (And.intro hf10 (And.intro H9.out.lo hb10.size)))
    clear hf10 hb10 HR
    go_wp2_with fail
    refine (inside_fault w w9 w10 _ _ code _ _ _ ev10 H10.out.1 H10.out.2.2.1 H10.out.2.2.2 H10.out.2.1).mono ?_
    rintro e w11 ⟨rfl, hk11⟩
    have H11 := hide hk11
    obtain ⟨ev, c11, hf11⟩ := H11.out.fault
    have HV := hide (show FaultIs w11 w.heap.size (fieldsB k0 k1 k2 k3 k4 k5 k6 k7 k8 && rightR s ds p q) ev code from by rw [HF.out, HP.out]; exact hf11)
    clear hk11 hf11 H10 H9
    go_wp2
    go_ret
    exact ⟨ev, rfl, HV.out, H11.out.old⟩

theorem inodeFault_any (k0 k1 k2 k3 k4 k5 k6 k7 k8 s : Int) (ds : List Int) (p q code : Int) (w : World) (hd : ds.length = 12) :
    Calls Tryz.prog 143 #[.agg (cellsI (inoI [k0, k1, k2, k3, k4, k5, k6, k7, k8] s ds p q)), .int .i64 code] w fun e w' => ∃ ev, e = .returned ev ∧ FaultIs w' w.heap.size (rightIno k0 k1 k2 k3 k4 k5 k6 k7 k8 s ds p q) ev code ∧ Below w.heap.size w w' := by
  cases hz : zeroB (inoI [k0, k1, k2, k3, k4, k5, k6, k7, k8] s ds p q) with
  | true =>
    refine (inodeFault_zero k0 k1 k2 k3 k4 k5 k6 k7 k8 s ds p q code w hd hz).mono ?_
    rintro e w' ⟨rfl, hb⟩
    exact ⟨.nilIface, rfl, .inl ⟨by unfold rightIno; rw [hz, Bool.true_or], rfl⟩, hb⟩
  | false =>
    have h := inodeFault_some k0 k1 k2 k3 k4 k5 k6 k7 k8 s ds p q code w hd hz
    unfold rightIno
    rw [hz, Bool.false_or]
    exact h
end Go.Proofs.YtplieplmhdfndaaGreatDoor
